import Derived.Test.YtkncboinfcnklaaGreatDoorQ22
namespace Go.Proofs.YtkncboinfcnklaaGreatDoor.Rl
open Go.RowKit Go.Deep Go.Shelf Go.Proofs.YtkncboinfcnklaaGreatDoor.Mth
theorem ty_ne {W:World} {B:Nat} {e:TypeId} {sz:Nat} {v:Value} {n:Nat} {xs:List Value} (h:W.ownsRow B e sz v n xs) {k:Nat} {C:Array Value} {t:TypeId} (hk:W.heap[k]? = some (Obj.cells C t (0,0))) (ht:t≠e):some k≠v.ownBlock:=fun q=>by
 obtain ⟨_,_,D,hD⟩:=own_block h q
 exact ht (cells_ty hk hD)
def nxE (L:Lg) (all:List Ent) (s:ByteArray):Ent:=⟨(all.length:Int),(L.clock:Int),s⟩
set_option maxRecDepth 100000 in
set_option maxHeartbeats 2000000 in
theorem after_any {w:World} {B cb:Nat} {V:Rv} {L:Lg} {all:List Ent} (hb:w.heap[cb]? = some (Obj.cells (rfC V L) 234 (0,0))) (h:w.ownsRow B 66 3 V.av all.length (all.flatMap eC)) (s:ByteArray) (hl:all.length≤4194303):Calls Tryz.prog 128 #[ptrV cb, .string s] w fun e w'=>∃ av',e=.returned (.agg #[.int .i64 (L.clock:Int),av'])∧w'.ownsRow w.heap.size 66 3 av' (all ++ [nxE L all s]).length ((all ++ [nxE L all s]).flatMap eC)∧Below w.heap.size w w':=by
 obtain ⟨i0,hi0,hz0,hz1,hz2⟩:=info_parts Tryz.info66
 obtain ⟨a,k,hav,_,_⟩:=own_slice h
 have hb1:=below_allocG w (Obj.cells #[.int .i64 0, .slice none 0 0] 228)
 have k1:=new_blk w #[.int .i64 0, .slice none 0 0] 228
 obtain ⟨W,hW⟩:∃ W,W=w.alloc (Obj.cells #[.int .i64 0, .slice none 0 0] 228):=⟨_,rfl⟩
 rw [← hW] at hb1 k1
 have hcb:cb < w.heap.size:=(Array.getElem?_eq_some_iff.1 hb).1
 have hbW:=(hb1.block cb hcb).trans hb
 have c6:=(cell_of (j:=6) (u:=.int .i64 (L.clock:Int)) hbW rfl).1
 have c7:=(cell_of (j:=7) (u:=V.av) hbW rfl).1
 have hsW:W.heap.size=w.heap.size + 1:=by rw [hW];simp
 have CK:=hide (copyK_any (c:=(L.clock:Int)) (own_belowR h hb1) (by omega))
 rw [hav] at c7 CK
 have HK1:=hide k1
 have HB1:=hide hb1
 have HW:=hide hW
 have HSW:=hide hsW
 have HCB:=hide hcb
 have FIN:Hid (∀ (W2:World) (v2:Value),W2.ownsRow W.heap.size 66 3 v2 all.length (all.flatMap eC)→Below W.heap.size W W2→∀ W3,W3=W2.alloc (Obj.cells #[.int .i64 (L.clock:Int),v2] 228)→W3.heap[W2.heap.size]? = some (Obj.cells #[.int .i64 (L.clock:Int),v2] 228 (0,0))∧(W3.alloc (Obj.cells #[.int .i64 (all.length:Int), .int .i64 (L.clock:Int), .string s] 66)).ownsRow w.heap.size 66 3 v2 all.length (all.flatMap eC)∧w.heap.size≤W3.heap.size ∧
   ∀ W5 v5,(W3.alloc (Obj.cells #[.int .i64 (all.length:Int), .int .i64 (L.clock:Int), .string s] 66)).grownBy W5 v2.ownBlock→W5.ownsRow w.heap.size 66 3 v5 (all.length + 1) (all.flatMap eC ++ [.int .i64 (all.length:Int), .int .i64 (L.clock:Int), .string s])→W5.heap[W2.heap.size]? = some (Obj.cells #[.int .i64 (L.clock:Int),v2] 228 (0,0))∧W5.heap[w.heap.size]? = some (Obj.cells #[.int .i64 0, .slice none 0 0] 228 (0,0))∧∀ W7,W7=((W5.setCell ⟨W2.heap.size,1,none⟩ v5).setCell ⟨w.heap.size,0,none⟩ (.int .i64 (L.clock:Int))).setCell ⟨w.heap.size,1,none⟩ v5→W7.heap[w.heap.size]? = some (Obj.cells #[.int .i64 (L.clock:Int),v5] 228 (0,0))∧W7.ownsRow w.heap.size 66 3 v5 (all ++ [nxE L all s]).length ((all ++ [nxE L all s]).flatMap eC)∧Below w.heap.size w W7):=by
  intro W2 v2 o2 b2 W3 hW3
  have hs:=HSW.out
  have e3:W3.heap[W2.heap.size]? = some (Obj.cells #[.int .i64 (L.clock:Int),v2] 228 (0,0)):=by rw [hW3];exact new_blk _ _ _
  have b3:Below W2.heap.size W2 W3:=by rw [hW3];exact below_allocG _ _
  have hs3:W3.heap.size=W2.heap.size + 1:=by rw [hW3];simp
  have hs2:=b2.size
  have o3:=own_belowR o2 b3
  have b4:=below_allocG W3 (Obj.cells #[.int .i64 (all.length:Int), .int .i64 (L.clock:Int), .string s] 66)
  have o4:=own_belowR o3 b4
  have z3:W3.heap[w.heap.size]? = some (Obj.cells #[.int .i64 0, .slice none 0 0] 228 (0,0)):=(b3.block _ (by omega)).trans ((b2.block _ (by omega)).trans HK1.out)
  refine ⟨e3,own_mono o4 (by omega),by omega,fun W5 v5 g5 o5=>?_⟩
  have e5:W5.heap[W2.heap.size]? = some (Obj.cells #[.int .i64 (L.clock:Int),v2] 228 (0,0)):=(g5.block _ (by simp;omega) (ty_ne o3 e3 (by decide))).trans ((b4.block _ (by omega)).trans e3)
  have z5:W5.heap[w.heap.size]? = some (Obj.cells #[.int .i64 0, .slice none 0 0] 228 (0,0)):=(g5.block _ (by simp;omega) (ty_ne o3 z3 (by decide))).trans ((b4.block _ (by omega)).trans z3)
  refine ⟨e5,z5,fun W7 hW7=>?_⟩
  subst hW7
  have z6:(W5.setCell ⟨W2.heap.size,1,none⟩ v5).heap[w.heap.size]? = some (Obj.cells #[.int .i64 0, .slice none 0 0] 228 (0,0)):=(set_other (by omega)).trans z5
  have z7:=set_blk (j:=0) (v:=.int .i64 (L.clock:Int)) z6
  have z8:=set_blk (j:=1) (v:=v5) z7
  refine ⟨z8,?_,?_⟩
  ·have o6:W5.ownsRow w.heap.size 66 3 v5 (all ++ [nxE L all s]).length ((all ++ [nxE L all s]).flatMap eC):=by simpa [nxE,eC] using o5
   exact own_set_other (own_set_other (own_set_other o6 e5 (by decide)) z6 (by decide)) z7 (by decide)
  ·have b5:Below w.heap.size w W5:=⟨g5.os.trans (b4.os.trans (b3.os.trans (b2.os.trans HB1.out.os))),g5.tape.trans (b4.tape.trans (b3.tape.trans (b2.tape.trans HB1.out.tape))),g5.output.trans (b4.output.trans (b3.output.trans (b2.output.trans HB1.out.output))),by have:=g5.size;simp at this;omega,fun k hk=>(g5.block k (by simp;omega) (fun q=>by have:=(own_block o2 q).1;omega)).trans ((b4.block k (by omega)).trans ((b3.block k (by omega)).trans ((b2.block k (by omega)).trans (HB1.out.block k hk))))⟩
   exact below_set (below_set (below_set b5 (by omega)) (Nat.le_refl _)) (Nat.le_refl _)
 clear hb h hbW hav k1 hb1 hW hsW
 generalize (L.clock:Int)=ck at *
 go_enter Tryz.func128,Tryz.ntmps128
 go_upto_region 1 with fail
 rw [← HW.out]
 go_upto_region 2 with (first | (go_at_call 199;refine CK.out.mono ?_;rintro e W2 ⟨av',rfl,o2,b2⟩;have hlt:w.heap.size < W2.heap.size:=(by have:=b2.size;have:=HSW.out;omega);have hf:=FIN.out W2 _ o2 b2;have HF:=hide hf;obtain ⟨a2,c2,rfl,_,_⟩:=own_slice o2;clear o2 b2 hf))
 obtain ⟨W3,hW3⟩:∃ W3,W3=W2.alloc (Obj.cells #[.int .i64 ck, .slice a2 all.length c2] 228):=⟨_,rfl⟩
 obtain ⟨e3,o3,s3,hf⟩:=HF.out W3 hW3
 rw [← hW3]
 obtain ⟨x0,_⟩:=cell_of (j:=0) (u:=.int .i64 ck) e3 rfl
 obtain ⟨x1,y1⟩:=cell_of (j:=1) (u:=.slice a2 all.length c2) e3 rfl
 have HO3:=hide o3
 have HF5:=hide hf
 clear e3 o3 hf hW3 HF FIN CK
 generalize hn:w.heap.size=n at *
 have HN:=hide hn
 generalize W2.heap.size=m at *
 clear hn
 have hne1:¬ m=n:=by omega
 have hne2:¬ n=m:=by omega
 go_wp2_with (first | (at_builtin;refine wpList_append_both _ rfl _ _ 57 rfl n 0 66 i0 (.agg #[.int .i64 0, .int .i64 0, .string ByteArray.empty]) 3 32 Tryz.underlying57 hi0 hz0 hz1 hz2 rfl (by decide) _ _ _ rfl HO3.out _ _ _ rfl (World.ownsRow_lit W3 #[.int .i64 (all.length:Int), .int .i64 ck, .string s] 1 (Nat.zero_le _) (by decide) rfl) (by intro u hu;simp at hu;rcases hu with rfl | rfl | rfl <;> rfl) (by unfold maxLen;omega) (by omega) (by simp;omega) ?_;intro v5 W5 o5 g5 n5;obtain ⟨e5,z5,hf7⟩:=HF5.out W5 v5 g5 o5;obtain ⟨p0,_⟩:=cell_of (j:=0) (u:=.int .i64 ck) e5 rfl;obtain ⟨p1,p2⟩:=cell_of (j:=1) (u:=.slice a2 all.length c2) e5 rfl;obtain ⟨p3,p4⟩:=cell_of (j:=0) (u:=.int .i64 0) z5 rfl;obtain ⟨p5,p6⟩:=cell_of (j:=1) (u:=.slice none 0 0) z5 rfl;have HF7:=hide hf7;obtain ⟨a5,c5,rfl,_,_⟩:=own_slice o5;clear o5 g5 n5 e5 z5 hf7))
 obtain ⟨W7,hW7⟩:∃ W7,W7=((W5.setCell ⟨m,1,none⟩ (.slice a5 (all.length + 1) c5)).setCell ⟨n,0,none⟩ (.int .i64 ck)).setCell ⟨n,1,none⟩ (.slice a5 (all.length + 1) c5):=⟨_,rfl⟩
 obtain ⟨r1,r2,r3⟩:=HF7.out W7 hW7
 rw [← hW7]
 have hld:=run_loadVar_row (P:=Tryz.prog) W7 n 228 228 _ _ _ r1 Tryz.underlying228 rfl Tryz.sizeKept
 refine bodyPost_ret (v:=.agg #[.int .i64 ck, .slice a5 (all.length + 1) c5]) ?_ rfl ⟨_,rfl,?_,?_⟩
 ·rw [results_cellG rfl]
  simp [asAddr,Result.andThen,hld]
 ·rw [HN.out];exact r2
 ·rw [HN.out];exact r3
end Go.Proofs.YtkncboinfcnklaaGreatDoor.Rl

namespace Go.Proofs.YtkncboinfcnklaaGreatDoor.Rl
open Go.RowKit Go.Deep Go.Shelf Go.Proofs.YtkncboinfcnklaaGreatDoor.Mth
set_option maxRecDepth 100000 in
set_option maxHeartbeats 2000000 in
theorem later_any {w:World} {B cb:Nat} {V:Rv} {L:Lg} {all:List Ent} (hb:w.heap[cb]? = some (Obj.cells (rfC V L) 234 (0,0))) (h:w.ownsRow B 66 3 V.av all.length (all.flatMap eC)) (k:Int) (hl:all.length≤4194303) (hc:L.clock≤1000000000000):Calls Tryz.prog 130 #[ptrV cb, .int .i64 k] w fun e w'=>∃ c' av',e=.returned (.agg #[.int .i64 c',av'])∧(0≤k→k≤1000→c'=(L.clock:Int) + k)∧w'.ownsRow w.heap.size 66 3 av' all.length (all.flatMap eC)∧Below w.heap.size w w':=by
 obtain ⟨a,kk,hav,_,_⟩:=own_slice h
 have hb1:=below_allocG w (Obj.cells #[.int .i64 0, .slice none 0 0] 228)
 have k1:=new_blk w #[.int .i64 0, .slice none 0 0] 228
 obtain ⟨W,hW⟩:∃ W,W=w.alloc (Obj.cells #[.int .i64 0, .slice none 0 0] 228):=⟨_,rfl⟩
 rw [← hW] at hb1 k1
 have hcb:cb < w.heap.size:=(Array.getElem?_eq_some_iff.1 hb).1
 have hbW:=(hb1.block cb hcb).trans hb
 have c6:=(cell_of (j:=6) (u:=.int .i64 (L.clock:Int)) hbW rfl).1
 have c7:=(cell_of (j:=7) (u:=V.av) hbW rfl).1
 have hsW:W.heap.size=w.heap.size + 1:=by rw [hW];simp
 have CK:=hide (copyK_any (c:=(L.clock:Int)) (own_belowR h hb1) (by omega))
 rw [hav] at c7 CK
 have HK1:=hide k1
 have HB1:=hide hb1
 have HW:=hide hW
 have HSW:=hide hsW
 have FIN:Hid (∀ (W2:World) (v2:Value),W2.ownsRow W.heap.size 66 3 v2 all.length (all.flatMap eC)→Below W.heap.size W W2→∀ W3,W3=W2.alloc (Obj.cells #[.int .i64 (L.clock:Int),v2] 228)→W3.heap[W2.heap.size]? = some (Obj.cells #[.int .i64 (L.clock:Int),v2] 228 (0,0))∧W3.heap[w.heap.size]? = some (Obj.cells #[.int .i64 0, .slice none 0 0] 228 (0,0))∧∀ c' W7,W7=((W3.setCell ⟨W2.heap.size,0,none⟩ (.int .i64 c')).setCell ⟨w.heap.size,0,none⟩ (.int .i64 c')).setCell ⟨w.heap.size,1,none⟩ v2→W7.heap[w.heap.size]? = some (Obj.cells #[.int .i64 c',v2] 228 (0,0))∧W7.ownsRow w.heap.size 66 3 v2 all.length (all.flatMap eC)∧Below w.heap.size w W7):=by
  intro W2 v2 o2 b2 W3 hW3
  have hs:=HSW.out
  have e3:W3.heap[W2.heap.size]? = some (Obj.cells #[.int .i64 (L.clock:Int),v2] 228 (0,0)):=by rw [hW3];exact new_blk _ _ _
  have b3:Below W2.heap.size W2 W3:=by rw [hW3];exact below_allocG _ _
  have hs2:=b2.size
  have o3:=own_belowR o2 b3
  have z3:W3.heap[w.heap.size]? = some (Obj.cells #[.int .i64 0, .slice none 0 0] 228 (0,0)):=(b3.block _ (by omega)).trans ((b2.block _ (by omega)).trans HK1.out)
  refine ⟨e3,z3,fun c' W7 hW7=>?_⟩
  subst hW7
  have z6:(W3.setCell ⟨W2.heap.size,0,none⟩ (.int .i64 c')).heap[w.heap.size]? = some (Obj.cells #[.int .i64 0, .slice none 0 0] 228 (0,0)):=(set_other (by omega)).trans z3
  have z7:=set_blk (j:=0) (v:=.int .i64 c') z6
  have z8:=set_blk (j:=1) (v:=v2) z7
  refine ⟨z8,own_mono (own_set_other (own_set_other (own_set_other o3 e3 (by decide)) z6 (by decide)) z7 (by decide)) (by omega),?_⟩
  have b5:Below w.heap.size w W3:=HB1.out.trans ((b2.trans (b3.mono b2.size)).mono (by omega))
  exact below_set (below_set (below_set b5 (by omega)) (Nat.le_refl _)) (Nat.le_refl _)
 clear hb h hbW hav k1 hb1 hW hsW
 generalize hck:(L.clock:Int)=ck at *
 have hc1:0≤ck∧ck≤1000000000000:=by omega
 clear hck
 have HCK:=hide hc1
 clear hc1 hc
 go_enter Tryz.func130,Tryz.ntmps130
 go_upto_region 1 with fail
 rw [← HW.out]
 go_upto_region 2 with (first | (go_at_call 199;refine CK.out.mono ?_;rintro e W2 ⟨av',rfl,o2,b2⟩;have hlt:w.heap.size < W2.heap.size:=(by have:=b2.size;have:=HSW.out;omega);have hf:=FIN.out W2 _ o2 b2;have HF:=hide hf;obtain ⟨a2,c2,rfl,_,_⟩:=own_slice o2;clear o2 b2 hf))
 obtain ⟨W3,hW3⟩:∃ W3,W3=W2.alloc (Obj.cells #[.int .i64 ck, .slice a2 all.length c2] 228):=⟨_,rfl⟩
 obtain ⟨e3,z3,hf⟩:=HF.out W3 hW3
 rw [← hW3]
 obtain ⟨x0,y0⟩:=cell_of (j:=0) (u:=.int .i64 ck) e3 rfl
 obtain ⟨x1,y1⟩:=cell_of (j:=1) (u:=.slice a2 all.length c2) e3 rfl
 obtain ⟨p3,p4⟩:=cell_of (j:=0) (u:=.int .i64 0) z3 rfl
 obtain ⟨p5,p6⟩:=cell_of (j:=1) (u:=.slice none 0 0) z3 rfl
 have HF5:=hide hf
 clear e3 z3 hf hW3 HF FIN CK
 generalize hn:w.heap.size=n at *
 have HN:=hide hn
 generalize W2.heap.size=m at *
 clear hn
 have hne1:¬ m=n:=by omega
 have hne2:¬ n=m:=by omega
 go_wp2_with fail
 obtain ⟨cc,hcc⟩:∃ cc,cc=wrap64 (ck + k):=⟨_,rfl⟩
 rw [← hcc]
 obtain ⟨W7,hW7⟩:∃ W7,W7=((W3.setCell ⟨m,0,none⟩ (.int .i64 cc)).setCell ⟨n,0,none⟩ (.int .i64 cc)).setCell ⟨n,1,none⟩ (.slice a2 all.length c2):=⟨_,rfl⟩
 obtain ⟨r1,r2,r3⟩:=HF5.out cc W7 hW7
 rw [← hW7]
 have hld:=run_loadVar_row (P:=Tryz.prog) W7 n 228 228 _ _ _ r1 Tryz.underlying228 rfl Tryz.sizeKept
 refine bodyPost_ret (v:=.agg #[.int .i64 cc, .slice a2 all.length c2]) ?_ rfl ⟨_,_,rfl,?_,?_,?_⟩
 ·rw [results_cellG rfl]
  simp [asAddr,Result.andThen,hld]
 ·intro h0 h1
  have:=HCK.out
  rw [hcc]
  unfold wrap64
  omega
 ·rw [HN.out];exact r2
 ·rw [HN.out];exact r3
end Go.Proofs.YtkncboinfcnklaaGreatDoor.Rl

namespace Go.Proofs.YtkncboinfcnklaaGreatDoor.Rl
open Go.RowKit Go.Deep Go.Shelf Go.Proofs.YtkncboinfcnklaaGreatDoor.Mth
set_option maxRecDepth 100000 in
set_option maxHeartbeats 2000000 in
theorem full_any {w:World} {B cb:Nat} {V:Rv} {L:Lg} (hb:w.heap[cb]? = some (Obj.cells (rfC V L) 234 (0,0))) (h:w.ownsRow B 66 3 V.mv L.mem.length (L.mem.flatMap eC)) (_hl:L.mem.length≤4194303) (_hm:L.memory≤1000):Calls Tryz.prog 203 #[ptrV cb] w fun e w'=>e=.returned (.bool (decide (L.mem.length=L.memory)))∧Below w.heap.size w w':=by
 obtain ⟨a,kk,hmv,_,_⟩:=own_slice h
 have c0:=(cell_of (j:=0) (u:=.int .i64 (L.memory:Int)) hb rfl).1
 have c8:=(cell_of (j:=8) (u:=V.mv) hb rfl).1
 rw [hmv] at c8
 clear h hmv hb
 generalize L.mem.length=ml at *
 generalize L.memory=mm at *
 go_enter Tryz.func203,Tryz.ntmps203
 have hd:((ml:Int) == (mm:Int))=decide (ml=mm):=by
  rw [Bool.eq_iff_iff];simp;omega
 go_wp2_with fail
 go_quiet (fail)
 go_wp2
 go_ret
 exact ⟨by first | rfl | (rw [← hd];rfl) | simp,drewG w _⟩
set_option maxRecDepth 100000 in
set_option maxHeartbeats 2000000 in
theorem tickR_no {w:World} {cb:Nat} {V:Rv} {L:Lg} (hb:w.heap[cb]? = some (Obj.cells (rfC V L) 234 (0,0))) (k:Int) (hk:-9223372036854775808≤k∧k≤9223372036854775807) (hc:L.clock≤1000000000000) (hn:canTick L.clock k=false):Calls Tryz.prog 131 #[ptrV cb, .int .i64 k] w fun e w'=>e=.returned (.int .i64 1)∧Below w.heap.size w w':=by
 have c6:=(cell_of (j:=6) (u:=.int .i64 (L.clock:Int)) hb rfl).1
 unfold canTick at hn
 clear hb
 generalize hcc:(L.clock:Int)=ck at *
 have h0:0≤ck∧ck≤1000000000000:=by omega
 clear hcc hc
 by_cases q1:k < 1
 ·go_enter Tryz.func131,Tryz.ntmps131
  go_wp2
  go_ret
  exact ⟨rfl,Below.refl _ _⟩
 ·by_cases q2:1000 < k
  ·go_enter Tryz.func131,Tryz.ntmps131
   go_wp2
   go_ret
   exact ⟨rfl,Below.refl _ _⟩
  ·have q3:1000000000000 < ck + k:=by
    simp at hn
    omega
   go_enter Tryz.func131,Tryz.ntmps131
   go_wp2
   go_ret
   exact ⟨rfl,Below.refl _ _⟩
set_option maxRecDepth 100000 in
set_option maxHeartbeats 2000000 in
theorem tickR_ok {Z:Nat→Prop} {w:World} {B cb:Nat} {V:Rv} {L:Lg} {all:List Ent} {ts:List Tl} (hb:w.heap[cb]? = some (Obj.cells (rfC V L) 234 (0,0))) (h:RfV Z B w V L all ts) (hB:B≤w.heap.size) (k:Nat) (hl:all.length≤4194303) (hc:L.clock≤1000000000000) (hn:canTick L.clock (k:Int)=true):Calls Tryz.prog 131 #[ptrV cb, .int .i64 (k:Int)] w fun e w'=>e=.returned (.int .i64 0)∧Tch (fun g=>g=cb) w w'∧∃ V',w'.heap[cb]? = some (Obj.cells (rfC V' { L with clock:=L.clock + k }) 234 (0,0))∧RfV Z B w' V' { L with clock:=L.clock + k } all ts:=by
 unfold canTick at hn
 have h0:1≤k∧k≤1000∧L.clock + k≤1000000000000:=by
  simp at hn
  omega
 have c6:=cell_of (j:=6) (u:=.int .i64 (L.clock:Int)) hb rfl
 have c7:=cell_of (j:=7) (u:=V.av) hb rfl
 have c18:=(cell_of (j:=18) (u:=.bool false) hb rfl).1
 have CL:=hide (later_any hb h.all (k:Int) hl hc)
 have hcb:cb < w.heap.size:=(Array.getElem?_eq_some_iff.1 hb).1
 have FIN:Hid (∀ W2 v2,W2.ownsRow w.heap.size 66 3 v2 all.length (all.flatMap eC)→Below w.heap.size w W2→W2.heap[cb]? = some (Obj.cells (rfC V L) 234 (0,0))∧∀ W7,W7=(W2.setCell ⟨cb,6,none⟩ (.int .i64 ((L.clock:Int) + (k:Int)))).setCell ⟨cb,7,none⟩ v2→Tch (fun g=>g=cb) w W7∧∃ V',W7.heap[cb]? = some (Obj.cells (rfC V' { L with clock:=L.clock + k }) 234 (0,0))∧RfV Z B W7 V' { L with clock:=L.clock + k } all ts):=by
  intro W2 v2 o2 b2
  have e2:=(b2.block cb hcb).trans hb
  refine ⟨e2,fun W7 hW7=>?_⟩
  subst hW7
  have e3:=set_blk (j:=6) (v:=.int .i64 ((L.clock:Int) + (k:Int))) e2
  have e4:=set_blk (j:=7) (v:=v2) e3
  have kp:∀ {B:Nat} {e:TypeId} {sz:Nat} {v:Value} {m:Nat} {xs:List Value},234≠e→W2.ownsRow B e sz v m xs→((W2.setCell ⟨cb,6,none⟩ (.int .i64 ((L.clock:Int) + (k:Int)))).setCell ⟨cb,7,none⟩ v2).ownsRow B e sz v m xs:=fun he ho=>own_set_other (own_set_other ho e2 he) e3 he
  have h2:=h.below b2
  refine ⟨⟨b2.os,b2.tape,b2.output,by simpa using b2.size,fun g hg hne=>(set_other hne).trans ((set_other hne).trans (b2.block g hg))⟩,{ V with av:=v2 },?_,⟨kp (by decide) (own_mono o2 hB),kp (by decide) h2.mem,fun i hi=>kp (by decide) (h2.lev i hi),fun i hi j hj=>kp (by decide) (h2.seg i hi j hj),h2.sz,kp (by decide) h2.wks,fun q hq=>kp (by decide) (h2.lst q hq),h2.run,kp (by decide) h2.tls⟩⟩
  rw [e4]
  have:((rfC V L).setIfInBounds 6 (.int .i64 ((L.clock:Int) + (k:Int)))).setIfInBounds 7 v2=rfC { V with av:=v2 } { L with clock:=L.clock + k }:=by
   rw [show (L.clock:Int) + (k:Int)=((L.clock + k:Nat):Int) by omega]
   rfl
  rw [this]
 obtain ⟨a,ka,hav,_,_⟩:=own_slice h.all
 rw [hav] at c7
 clear hb h hn
 obtain ⟨ck,hck⟩:∃ ck:Int,ck=(L.clock:Int):=⟨_,rfl⟩
 rw [← hck] at c6 CL FIN
 have hck2:0≤ck∧ck + (k:Int)≤1000000000000:=by omega
 have HCK:=hide hck
 clear hck
 go_enter Tryz.func131,Tryz.ntmps131
 go_wp2_with (first | (go_at_call 130;refine CL.out.mono ?_;rintro e W2 ⟨c',v2,rfl,hc',o2,b2⟩;obtain rfl:=hc' (by omega) (by omega);obtain ⟨e2,hf⟩:=FIN.out W2 v2 o2 b2;obtain ⟨d6,f6⟩:=cell_of (j:=6) (u:=.int .i64 (L.clock:Int)) e2 rfl;obtain ⟨d7,f7⟩:=cell_of (j:=7) (u:=V.av) e2 rfl;have HF:=hide hf;obtain ⟨a2,c2,rfl,_,_⟩:=own_slice o2;clear o2 b2 hf e2))
 go_ret
 exact ⟨rfl,HF.out _ rfl⟩
end Go.Proofs.YtkncboinfcnklaaGreatDoor.Rl

namespace Go.Proofs.YtkncboinfcnklaaGreatDoor.Rl
open Go.RowKit Go.Deep Go.Shelf Go.Proofs.YtkncboinfcnklaaGreatDoor.Mth
theorem rnV_eq {r:Option Nat} {i:Nat}:rnV r=(i:Int)↔r=some i:=by
 cases r with
 | none=>simp [rnV]
 | some j=>simp [rnV];omega
set_option maxRecDepth 100000 in
set_option maxHeartbeats 4000000 in
theorem hasR_any {w:World} {B cb:Nat} {V:Rv} {L:Lg} (hb:w.heap[cb]? = some (Obj.cells (rfC V L) 234 (0,0))) (h:w.ownsRow B 304 3 V.wv L.wks.length (wkRs L.wks V.wl V.rd)) (hls:∀ q,q < L.wks.length→w.ownsRow B 3 1 (V.wl q) (L.wks.getD q wk0).list.length ((L.wks.getD q wk0).list.map iV)) (hw:L.wks.length≤4) (hwl:∀ q,q < L.wks.length→(L.wks.getD q wk0).list.length≤1000) (i:Nat) (hi:i≤100) :
  Calls Tryz.prog 247 #[ptrV cb, .int .i64 (i:Int)] w fun e w'=>e=.returned (.bool (hasT L.wks i))∧Below w.heap.size w w':=by
 have c15:=(cell_of (j:=15) (u:=V.wv) hb rfl).1
 obtain ⟨aw,cw,hwv,hcw,hcm⟩:=own_slice h
 rw [hwv] at c15 h
 have HR:=hide h
 have HLS:=hide hls
 have HWL:=hide hwl
 have HT:Hid (∀ q,q < L.wks.length→tkIn (L.wks.getD q wk0) i=true→hasT L.wks i=true):=fun q hq ht=>by
  unfold hasT
  rw [List.any_eq_true]
  exact ⟨_,by rw [← List.getElem_eq_getD (h:=hq)];exact List.getElem_mem hq,ht⟩
 have HF:Hid ((∀ q,q < L.wks.length→tkIn (L.wks.getD q wk0) i=false)→hasT L.wks i=false):=fun ha=>by
  unfold hasT
  rw [List.any_eq_false]
  intro k hk
  obtain ⟨q,hq,rfl⟩:=List.mem_iff_getElem.1 hk
  have:=ha q hq
  rw [← List.getElem_eq_getD (h:=hq)] at this
  simp [this]
 unfold maxLen at hcm
 clear hb h hls hwl hwv
 generalize hhT:hasT L.wks i=hT at *
 generalize hnw:L.wks.length=nw at *
 have HNW:=hide hnw
 clear hhT hnw
 go_enter Tryz.func247,Tryz.ntmps247
 go_wp2_with fail
 go_loopw [5] (fun x wr=>∃ q:Nat,q≤nw∧x=.int .i64 q∧wr=w∧∀ p,p < q→tkIn (L.wks.getD p wk0) i=false) (fun x _=>nw - (intOf x).toNat)
 case atStart=>exact ⟨0,Nat.zero_le _,rfl,rfl,fun p hp=>absurd hp (Nat.not_lt_zero _)⟩
 case round=>
  obtain ⟨q,hqn,rfl,hwr,hno⟩:=hrel
  rw [hwr]
  have HWR:=hide hwr
  clear hwr
  by_cases hlt:q < nw
  ·obtain ⟨g,rfl⟩:=own_some HR.out (by omega)
   obtain ⟨r0,r1,r2⟩:=wkRs_at (ks:=L.wks) (wl:=V.wl) (rd:=V.rd) (q:=q) (by rw [HNW.out];exact hlt)
   have k0:=own_get HR.out r0
   have k1:=own_get HR.out r1
   have hl0:=HLS.out q hlt
   have hll:=HWL.out q hlt
   obtain ⟨al,cl,hvl,hcl,hcm2⟩:=own_slice hl0
   rw [hvl] at k0 hl0
   have HL0:=hide hl0
   have HTQ:=hide (HT.out q hlt)
   have HNO:=hide hno
   unfold maxLen at hcm2
   clear r0 r1 r2 hno hl0 hvl
   have hin:tkIn (L.wks.getD q wk0) i=(decide ((L.wks.getD q wk0).runs=some i) || decide (i ∈ (L.wks.getD q wk0).list)):=by
    unfold tkIn
    simp [eq_comm]
   have HIN:=hide hin
   clear hin
   generalize hkq:L.wks.getD q wk0=kq at *
   have HKQ:=hide hkq
   clear hkq
   generalize hnl:kq.list.length=nl at *
   have HNL:=hide hnl
   clear hnl
   by_cases hr:kq.runs=some i
   ·have hrn:rnV kq.runs=(i:Int):=rnV_eq.2 hr
    rw [hrn] at k1
    have ht:hT=true:=HTQ.out (by rw [HIN.out];simp [hr])
    have HTT:=hide ht
    clear ht
    go_wp2_with fail
    go_ret
    exact ⟨by rw [HTT.out];rfl,Below.refl _ _⟩
   ·have hrn:¬ rnV kq.runs=(i:Int):=fun e=>hr (rnV_eq.1 e)
    generalize rnV kq.runs=rr at *
    have hrn2:(rr == (i:Int))=false:=by simpa using hrn
    go_wp2_with fail
    go_loopw [6] (fun y wr=>∃ k:Nat,k≤nl∧y=.int .i64 k∧wr=w∧∀ p,p < k→¬ kq.list.getD p 0=i) (fun y _=>nl - (intOf y).toNat)
    case atStart=>exact ⟨0,Nat.zero_le _,rfl,rfl,fun p hp=>absurd hp (Nat.not_lt_zero _)⟩
    case round=>
     obtain ⟨k,hkn,rfl,hwr,hno⟩:=hrel
     rw [hwr]
     have HWR2:=hide hwr
     clear hwr
     by_cases hlt2:k < nl
     ·obtain ⟨gl,rfl⟩:=own_some HL0.out (by omega)
      have hgl:kq.list[k]? = some (kq.list.getD k 0):=by rw [List.getElem?_eq_getElem (by rw [HNL.out];exact hlt2),List.getElem_eq_getD 0]
      have k3:=own_get HL0.out (show (kq.list.map iV)[k]? = some (iV (kq.list.getD k 0)) by rw [List.getElem?_map,hgl];rfl)
      have hmem:kq.list.getD k 0 ∈ kq.list:=List.mem_of_getElem? hgl
      have HNO2:=hide hno
      clear hno hgl
      by_cases hx:kq.list.getD k 0=i
      ·have ht:hT=true:=HTQ.out (by rw [HIN.out];rw [hx] at hmem;simp [hmem])
       have HTT:=hide ht
       clear ht hmem
       generalize kq.list.getD k 0=xx at *
       subst hx
       go_wp2_with fail
       go_ret
       exact ⟨by rw [HTT.out];rfl,Below.refl _ _⟩
      ·have HX:=hide hx
       generalize hxx:kq.list.getD k 0=xx at *
       have HXX:=hide hxx
       clear hxx
       have hx2:((xx:Int) == (i:Int))=false:=by simp;omega
       clear hx hmem
       go_wp2_with fail
       go_roundw
       case rel=>exact ⟨k + 1,by omega,by go_num,trivial,fun p hp=>by
        by_cases e:p=k
        ·subst e;rw [HXX.out];exact HX.out
        ·exact HNO2.out p (by omega)⟩
       case measure=>simp [intOf];omega
     ·obtain rfl:k=nl:=by omega
      have hf:tkIn kq i=false:=by
       rw [HIN.out]
       simp only [Bool.or_eq_false_iff,decide_eq_false_iff_not]
       refine ⟨hr,fun hm=>?_⟩
       obtain ⟨p,hp,he⟩:=List.mem_iff_getElem.1 hm
       exact hno p (by rw [← HNL.out];exact hp) (by rw [← List.getElem_eq_getD (h:=hp)];exact he)
      have HF2:=hide hf
      clear hf hno
      go_wp2_with fail
      go_roundw
      case rel=>exact ⟨q + 1,by omega,by go_num,trivial,fun p hp=>by
       by_cases e:p=q
       ·subst e;rw [HKQ.out];exact HF2.out
       ·exact HNO.out p (by omega)⟩
      case measure=>simp [intOf];omega
  ·obtain rfl:q=nw:=by omega
   have ht:hT=false:=HF.out (fun p hp=>hno p hp)
   have HTT:=hide ht
   clear ht
   go_wp2_with fail
   go_ret
   exact ⟨by rw [HTT.out];rfl,Below.refl _ _⟩
end Go.Proofs.YtkncboinfcnklaaGreatDoor.Rl

namespace Go.Proofs.YtkncboinfcnklaaGreatDoor.Rl
open Go.RowKit Go.Deep Go.Shelf Go.Proofs.YtkncboinfcnklaaGreatDoor.Mth
theorem wkRs_set {ks:List Wk} {wl:Nat→Value} {rd:Nat→Int} {q:Nat} {k':Wk} {v:Value} (hq:q < ks.length) (hr:k'.runs=(ks.getD q wk0).runs):(wkRs ks wl rd).set (q * 3) v=wkRs (ks.set q k') (fun p=>if p=q then v else wl p) rd:=by
 apply List.ext_getElem?
 intro j
 by_cases hj:j < ks.length * 3
 ·have hp:j / 3 < ks.length:=by omega
  obtain ⟨a0,a1,a2⟩:=wkRs_at (ks:=ks) (wl:=wl) (rd:=rd) hp
  obtain ⟨b0,b1,b2⟩:=wkRs_at (ks:=ks.set q k') (wl:=fun p=>if p=q then v else wl p) (rd:=rd) (q:=j / 3) (by simpa using hp)
  have hg:(if j / 3=q then k'.runs else (ks.getD (j / 3) wk0).runs)=((ks.set q k').getD (j / 3) wk0).runs:=by
   by_cases e:j / 3=q
   ·subst e
    simp [hq]
   ·rw [if_neg e,List.getD_eq_getElem?_getD,List.getD_eq_getElem?_getD,List.getElem?_set_ne (fun h=>e h.symm)]
  have hg2:((ks.set q k').getD (j / 3) wk0).runs=(ks.getD (j / 3) wk0).runs:=by
   rw [← hg]
   by_cases e:j / 3=q
   ·rw [if_pos e,hr,e]
   ·rw [if_neg e]
  rcases (show j=j / 3 * 3∨j=j / 3 * 3 + 1∨j=j / 3 * 3 + 2 by omega) with e | e | e
  ·by_cases e2:j / 3=q
   ·rw [e,b0,if_pos e2,e2,List.getElem?_set_self (by rw [wkRs_len];omega)]
   ·rw [e,b0,if_neg e2,List.getElem?_set_ne (by omega),a0]
  ·rw [e,b1,List.getElem?_set_ne (by omega),a1,hg2]
  ·rw [e,b2,List.getElem?_set_ne (by omega),a2]
 ·rw [List.getElem?_eq_none (by rw [List.length_set,wkRs_len];omega),List.getElem?_eq_none (by rw [wkRs_len,List.length_set];omega)]
structure DuI (w wr:World) (B:Nat) (V:Rv) (nw:Nat) (wl:Nat→Value) (ks:List Wk):Prop where
 len:ks.length=nw
 row:wr.ownsRow B 304 3 V.wv nw (wkRs ks wl V.rd)
 lst:∀ q,q < nw→wr.ownsRow B 3 1 (wl q) (ks.getD q wk0).list.length ((ks.getD q wk0).list.map iV)
 dis:∀ p q,p < nw→q < nw→p≠q→∀ g,some g=(wl p).ownBlock→some g≠(wl q).ownBlock
 new:∀ q,q < nw→∀ g,some g=(wl q).ownBlock→some g=(V.wl q).ownBlock∨w.heap.size≤g
 tch:Tch (fun g=>some g=V.wv.ownBlock∨∃ q,q < nw∧some g=(V.wl q).ownBlock) w wr
theorem DuI.add {w wr W5:World} {B g c:Nat} {V:Rv} {nw:Nat} {wl:Nat→Value} {ks:List Wk} (h:DuI w wr B V nw wl ks) (hg:V.wv=.slice (some ⟨g,0,none⟩) nw c) {q x:Nat} (hq:q < nw) {v5:Value}
  (g5:(wr.alloc (Obj.cells #[iV x] 3)).grownBy W5 (wl q).ownBlock) (o5:W5.ownsRow B 3 1 v5 ((ks.getD q wk0).list.length + 1) ((ks.getD q wk0).list.map iV ++ [iV x])) (n5:v5.ownBlock=(wl q).ownBlock∨v5.ownBlock=some (wr.alloc (Obj.cells #[iV x] 3)).heap.size) :
  (W5.cell? ⟨g,q * 3,none⟩=some (wl q)∧W5.frozen? ⟨g,q * 3,none⟩=false)∧DuI w (W5.setCell ⟨g,q * 3,none⟩ v5) B V nw (fun p=>if p=q then v5 else wl p) (ks.set q ⟨(ks.getD q wk0).list ++ [x],(ks.getD q wk0).runs,(ks.getD q wk0).read⟩):=by
 have b1:=below_allocG wr (Obj.cells #[iV x] 3)
 have hs1:(wr.alloc (Obj.cells #[iV x] 3)).heap.size=wr.heap.size + 1:=by simp
 have hrow:=h.row
 rw [hg] at hrow
 have blk:∀ k,k < wr.heap.size→some k≠(wl q).ownBlock→W5.heap[k]? = wr.heap[k]? := fun k hk hn=>(g5.block k (by rw [hs1];omega) hn).trans (b1.block k hk)
 have hgb:=own_block hrow (g:=g) rfl
 have hgq:some g≠(wl q).ownBlock:=fun e=>by
  obtain ⟨_,_,D,hD⟩:=own_block (h.lst q hq) e
  obtain ⟨_,_,D',hD'⟩:=hgb
  exact absurd (cells_ty hD' hD) (by decide)
 have row5:W5.ownsRow B 304 3 (.slice (some ⟨g,0,none⟩) nw c) nw (wkRs ks wl V.rd):=own_same hrow (fun k hk=>by
  injection hk with hk
  subst hk
  exact blk k hgb.2.1 hgq)
 have lst5:∀ p,p < nw→p≠q→W5.ownsRow B 3 1 (wl p) (ks.getD p wk0).list.length ((ks.getD p wk0).list.map iV):=fun p hp hne=>own_same (h.lst p hp) (fun k hk=>blk k (own_block (h.lst p hp) hk).2.1 (h.dis p q hp hq hne k hk))
 have hg5:∃ C,W5.heap[g]? = some (Obj.cells C 304 (0,0)):=by
  obtain ⟨_,_,C,hC⟩:=own_block row5 (g:=g) rfl
  exact ⟨C,hC⟩
 obtain ⟨C5,hC5⟩:=hg5
 have kp:∀ {B:Nat} {e:TypeId} {sz:Nat} {v:Value} {m:Nat} {xs:List Value},304≠e→W5.ownsRow B e sz v m xs→(W5.setCell ⟨g,q * 3,none⟩ v5).ownsRow B e sz v m xs:=fun he ho=>own_set_other ho hC5 he
 have hlen:=h.len
 obtain ⟨a0,_,_⟩:=wkRs_at (ks:=ks) (wl:=wl) (rd:=V.rd) (q:=q) (by omega)
 have new5:∀ k,some k=v5.ownBlock→some k=(wl q).ownBlock∨wr.heap.size≤k:=fun k hk=>by
  rcases n5 with e | e
  ·rw [e] at hk;exact Or.inl hk
  ·rw [e] at hk
   injection hk with hk
   right
   rw [hk,hs1]
   omega
 refine ⟨⟨own_get row5 a0,(own_there row5 (j:=q * 3) (by obtain ⟨_,_,e,h1,_⟩:=own_slice row5;injection e with _ _ e;subst e;omega)).2⟩,by simpa using hlen,?_,fun p hp=>?_,fun p r hp hr hne k hk=>?_,fun p hp k hk=>?_,?_⟩
 ·rw [hg]
  have:=own_store (i:=q * 3) (y:=v5) row5 (by omega)
  rwa [wkRs_set (k':=⟨(ks.getD q wk0).list ++ [x],(ks.getD q wk0).runs,(ks.getD q wk0).read⟩) (by omega) rfl] at this
 ·by_cases e:p=q
  ·subst e
   simp only [if_pos]
   have hgd:((ks.set p ⟨(ks.getD p wk0).list ++ [x],(ks.getD p wk0).runs,(ks.getD p wk0).read⟩).getD p wk0).list=(ks.getD p wk0).list ++ [x]:=by
    rw [List.getD_eq_getElem?_getD,List.getElem?_set_self (by omega)]
    rfl
   rw [hgd]
   refine kp (by decide) ?_
   simpa using o5
  ·simp only [if_neg e]
   have hgd:(ks.set q ⟨(ks.getD q wk0).list ++ [x],(ks.getD q wk0).runs,(ks.getD q wk0).read⟩).getD p wk0=ks.getD p wk0:=by
    rw [List.getD_eq_getElem?_getD,List.getElem?_set_ne (fun h=>e h.symm),List.getD_eq_getElem?_getD]
   rw [hgd]
   exact kp (by decide) (lst5 p hp e)
 ·by_cases ep:p=q
  ·subst ep
   simp only [if_pos,if_neg (show r≠p from fun h=>hne h.symm)] at hk ⊢
   intro hq2
   rcases new5 k hk with e | e
   ·exact h.dis p r hp hr hne k e hq2
   ·have:=(own_block (h.lst r hr) hq2).2.1
    omega
  ·by_cases er:r=q
   ·subst er
    simp only [if_pos,if_neg ep] at hk ⊢
    intro hq2
    rcases new5 k hq2 with e | e
    ·exact h.dis p r hp hr hne k hk e
    ·have:=(own_block (h.lst p hp) hk).2.1
     omega
   ·simp only [if_neg ep,if_neg er] at hk ⊢
    exact h.dis p r hp hr hne k hk
 ·by_cases ep:p=q
  ·subst ep
   simp only [if_pos] at hk
   rcases new5 k hk with e | e
   ·exact h.new p hp k e
   ·exact Or.inr (Nat.le_trans h.tch.size e)
  ·simp only [if_neg ep] at hk
   exact h.new p hp k hk
 ·refine ⟨g5.os.trans (b1.os.trans h.tch.os),g5.tape.trans (b1.tape.trans h.tch.tape),g5.output.trans (b1.output.trans h.tch.output),?_,fun k hk hn=>?_⟩
  ·have h1:=h.tch.size
   have h2:=g5.size
   rw [hs1] at h2
   simp
   omega
  ·have hkg:k≠g:=fun e=>hn (Or.inl (by rw [hg,e];rfl))
   rw [set_other hkg]
   have hkw:k < wr.heap.size:=Nat.lt_of_lt_of_le hk h.tch.size
   have hne:some k≠(wl q).ownBlock:=fun e=>by
    rcases h.new q hq k e with e | e
    ·exact hn (Or.inr ⟨q,hq,e⟩)
    ·omega
   rw [blk k hkw hne]
   exact h.tch.block k hk hn
end Go.Proofs.YtkncboinfcnklaaGreatDoor.Rl
