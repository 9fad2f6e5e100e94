import Derived.Test.YtkncboinfcnklaaGreatDoorQ2
import Derived.Laws.Concat
namespace Go.Proofs.YtkncboinfcnklaaGreatDoor
open Go.RowKit Go.Deep Go.Proofs.YtkncboinfcnklaaGreatDoor.Mth
set_option maxHeartbeats 1000000 in
theorem letter_any (c:Int) (w:World) (h0:0≤c) (h1:c < 256):Calls Tryz.prog 189 #[.int .u8 c] w fun e w'=>e=.returned (.int .u8 (ltr c))∧w'=w:=by
 go_enter Tryz.func189,Tryz.ntmps189
 go_wp2
 all_goals go_ret
 all_goals refine ⟨?_,rfl⟩
 all_goals (congr 2;unfold ltr)
 all_goals first | (rw [if_pos (by omega)];first | rfl | omega | (simp;omega)) | (rw [if_neg (by omega),if_pos (by omega)];first | rfl | omega) | (rw [if_neg (by omega),if_neg (by omega)];first | rfl | omega)
def putS (x:ByteArray) (l:List ByteArray):List ByteArray:=if memD x l then l else ins ltS x l
theorem putS_len (x:ByteArray) (l:List ByteArray):(putS x l).length≤l.length + 1:=by
 unfold putS
 split
 ·omega
 ·rw [ins_len];omega
theorem putS_mem (x:ByteArray) (l:List ByteArray) (z:ByteArray):z ∈ putS x l↔z=x∨z ∈ l:=by
 unfold putS
 split
 ·rename_i h
  have:=memD_iff.1 h
  constructor
  ·exact Or.inr
  ·rintro (rfl | h) <;> assumption
 ·exact ins_mem x l z
theorem putS_up (x:ByteArray) (l:List ByteArray) (h:l.Pairwise ltS):(putS x l).Pairwise ltS:=by
 unfold putS
 split
 ·exact h
 ·rename_i c
  exact ins_up sordS x l h (fun q=>c (memD_true q))
theorem rd_at {w:World} {a:Option Addr} {n c:Nat} {l:List ByteArray} (h:Rd w (.slice a n c) l) (j:Nat) (hj:j < l.length):∃ b o,a=some ⟨b,o,none⟩∧b < w.heap.size∧w.cell? ⟨b,o + j,none⟩=some (.string (l.getD j ByteArray.empty)):=by
 obtain ⟨a',c',e,hc,hm,hz,h⟩:=h
 injection e with e1 e2 e3
 rcases h with h | ⟨b,o,e4,h⟩
 ·subst h;simp at hj
 ·exact ⟨b,o,e1.trans e4,World.block_lt_of_cell? _ _ (h j hj),h j hj⟩
theorem drop_get {α:Type} {l:List α} {k:Nat} (h:k < l.length) (z:α):l.drop k=l.getD k z :: l.drop (k + 1):=by
 rw [List.drop_eq_getElem_cons h]
 simp [List.getD,h]
theorem eqS_false {x y:ByteArray} (h:y≠x):(y.toList == x.toList)=false:=by rw [eq_eq];simpa using h
theorem ltS_bool {x y:ByteArray} (h:ltS x y):Op.bytesLess x.toList y.toList=true:=by rw [less_eq];simpa using h
theorem ltS_no {x y:ByteArray} (h:¬ ltS x y):Op.bytesLess x.toList y.toList=false:=by rw [less_eq];simpa using h
set_option maxRecDepth 100000 in
set_option maxHeartbeats 4000000 in
theorem putText_core (a:Option Addr) (c:Nat) (l:List ByteArray) (x:ByteArray) (w:World) (h:Rd w (.slice a l.length c) l) (hl:l.length≤4194304) :
  Calls Tryz.prog 166 #[.slice a l.length c, .string x] w fun e w'=>∃ v',e=.returned (.tuple #[v', .bool (!memD x l)])∧Below w.heap.size w w'∧Rd w' v' (putS x l):=by
 have HR:=hide h
 obtain ⟨i0,hi0,hz0,hz1,hz2⟩:=info_parts Tryz.info9
 have hcm:l.length≤c∧c≤maxLen:=by obtain ⟨a',c',e,q1,q2,_⟩:=h;injection e with _ _ e;subst e;exact ⟨q1,q2⟩
 obtain ⟨hc,hm⟩:=hcm
 unfold maxLen at hm
 clear h
 generalize hn:l.length=n at *
 have HN:=hide hn
 clear hn
 go_enter Tryz.func166,Tryz.ntmps166
 go_wp2_with fail
 go_loopw [6,7,8] (fun o d i wr=>∃ (k:Nat) (dn:Bool) (m:List ByteArray),k≤n∧i=.int .i64 k∧d=.bool dn∧Cur w wr o m∧m.length≤k + dn.toNat∧insTo ltS x dn m (l.drop k)=ins ltS x l∧¬ x ∈ l.take k) (fun _ _ i _=>n - (intOf i).toNat)
 case atStart=>exact ⟨0,false,[],Nat.zero_le _,rfl,rfl,⟨Below.refl _ _,World.ownsRow_nil _ _ _ _⟩,by simp,by simp [insTo],by simp⟩
 case round=>
  obtain ⟨k,dn,m,hk,rfl,rfl,hcur,hml,hins,hnot⟩:=hrel
  have HC:=hide hcur
  have HI:=hide hins
  have HX:=hide hnot
  have hsz:=hcur.1.size
  clear hcur hins hnot
  by_cases hlt:k < n
  ·obtain ⟨b,o,rfl,hblt,hcell⟩:=rd_at HR.out k (by rw [HN.out];exact hlt)
   have hcell':=(HC.out.1.cell (p:=⟨b,o + k,none⟩) hblt).trans hcell
   have hdr:=hide (drop_get (l:=l) (k:=k) (by rw [HN.out];exact hlt) ByteArray.empty)
   have htk:Hid (l.take (k + 1)=l.take k ++ [l.getD k ByteArray.empty]):=by
    show _=_
    rw [List.take_succ_eq_append_getElem (by rw [HN.out];exact hlt)]
    simp [List.getD,show k < l.length by rw [HN.out];exact hlt]
   have hmem:Hid (l.getD k ByteArray.empty ∈ l):=by
    show _ ∈ _
    rw [List.getD,List.getElem?_eq_getElem (by rw [HN.out];exact hlt)]
    exact List.getElem_mem _
   generalize l.getD k ByteArray.empty=y at *
   clear hcell
   by_cases hy:y=x
   ·subst hy
    go_wp2
    go_ret2
    refine ⟨_,by rw [memD_true hmem.out];rfl,HC.out.1,?_⟩
    unfold putS
    rw [if_pos (memD_true hmem.out)]
    exact HR.out.below HC.out.1
   ·have q1:=eqS_false hy
    have hnx:Hid (¬ x ∈ l.take (k + 1)):=by
     show ¬ _
     rw [htk.out]
     simp only [List.mem_append,List.mem_singleton]
     rintro (q | q)
     ·exact HX.out q
     ·exact hy q.symm
    have HY:=hide hy
    clear hy
    cases dn with
    | true=>
     simp only [Bool.toNat_true] at hml
     go_wp2_with (at_builtin;refine wpList_append_own _ rfl (.tmp 36) (.tmp 41) 58 rfl w.heap.size 9 i0 (.string ByteArray.empty) 1 16 Tryz.underlying58 hi0 hz0 hz1 hz2 rfl (by decide) _ _ _ rfl (HC.out.2.alloc _) ⟨wr.heap.size,0,none⟩ 1 1 [.string y] rfl rfl (cell_one_new _ _ _) (by intro u hu;simp at hu;subst hu;rfl) (by unfold maxLen;omega) (by omega) (by simp;omega) ?_;intro v3 w3 hown3 hgrow3 _;have HC3:=hide (cur_append HC.out hown3 hgrow3);clear hown3 hgrow3)
     go_roundw
     case rel=>exact ⟨k + 1,true,m ++ [y],by omega,by go_num,rfl,HC3.out,by rw [List.length_append,List.length_singleton,Bool.toNat_true];omega,by rw [← HI.out,hdr.out,insTo_done],hnx.out⟩
     case measure=>simp [intOf];omega
    | false=>
     simp only [Bool.toNat_false] at hml
     by_cases hxy:ltS x y
     ·have q2:=ltS_bool hxy
      have q3:=ltS_no (x:=y) (y:=x) (fun q=>sordS.irr _ (sordS.tr _ _ _ hxy q))
      have HXY:=hide hxy
      clear hxy
      go_wp2_with (first
       | (at_builtin;refine wpList_append_own _ rfl (.tmp 32) (.tmp 34) 58 rfl w.heap.size 9 i0 (.string ByteArray.empty) 1 16 Tryz.underlying58 hi0 hz0 hz1 hz2 rfl (by decide) _ _ _ rfl (HC.out.2.alloc _) ⟨wr.heap.size,0,none⟩ 1 1 [.string x] rfl rfl (cell_one_new _ _ _) (by intro u hu;simp at hu;subst hu;rfl) (by unfold maxLen;omega) (by omega) (by simp;omega) ?_;intro v3 w3 hown3 hgrow3 _;have HC3:=hide (cur_append HC.out hown3 hgrow3);have hcell3:=(HC3.out.1.cell (p:=⟨b,o + k,none⟩) hblt).trans ((HC.out.1.cell (p:=⟨b,o + k,none⟩) hblt).symm.trans hcell');have hsz3:=HC3.out.1.size;clear hown3 hgrow3)
       | (at_builtin;refine wpList_append_own _ rfl (.tmp 36) (.tmp 41) 58 rfl w.heap.size 9 i0 (.string ByteArray.empty) 1 16 Tryz.underlying58 hi0 hz0 hz1 hz2 rfl (by decide) _ _ _ rfl (HC3.out.2.alloc _) ⟨w3.heap.size,0,none⟩ 1 1 [.string y] rfl rfl (cell_one_new _ _ _) (by intro u hu;simp at hu;subst hu;rfl) (by unfold maxLen;simp only [List.length_append,List.length_singleton];omega) (by simp only [List.length_append,List.length_singleton];omega) (by simp;omega) ?_;intro v4 w4 hown4 hgrow4 _;have HC4:=hide (cur_append HC3.out hown4 hgrow4);clear hown4 hgrow4))
      go_roundw
      case rel=>exact ⟨k + 1,true,m ++ [x] ++ [y],by omega,by go_num,rfl,HC4.out,by simp only [List.length_append,List.length_singleton,Bool.toNat_true];omega,by rw [← HI.out,hdr.out,insTo_here HXY.out],hnx.out⟩
      case measure=>simp [intOf];omega
     ·have q2:=ltS_no hxy
      have q3:=ltS_bool (x:=y) (y:=x) ((sordS.tri x y).resolve_left hxy |>.resolve_left (fun q=>HY.out q.symm))
      have HXY:=hide hxy
      clear hxy
      go_wp2_with (at_builtin;refine wpList_append_own _ rfl (.tmp 36) (.tmp 41) 58 rfl w.heap.size 9 i0 (.string ByteArray.empty) 1 16 Tryz.underlying58 hi0 hz0 hz1 hz2 rfl (by decide) _ _ _ rfl (HC.out.2.alloc _) ⟨wr.heap.size,0,none⟩ 1 1 [.string y] rfl rfl (cell_one_new _ _ _) (by intro u hu;simp at hu;subst hu;rfl) (by unfold maxLen;omega) (by omega) (by simp;omega) ?_;intro v3 w3 hown3 hgrow3 _;have HC3:=hide (cur_append HC.out hown3 hgrow3);clear hown3 hgrow3)
      go_roundw
      case rel=>exact ⟨k + 1,false,m ++ [y],by omega,by go_num,rfl,HC3.out,by rw [List.length_append,List.length_singleton,Bool.toNat_false];omega,by rw [← HI.out,hdr.out,insTo_on HXY.out],hnx.out⟩
      case measure=>simp [intOf];omega
  ·have hke:k=n:=by omega
   subst hke
   have hdr:l.drop k=[]:=List.drop_eq_nil_of_le (by rw [HN.out];exact Nat.le_refl _)
   have htk:l.take k=l:=List.take_of_length_le (by rw [HN.out];exact Nat.le_refl _)
   have hnx:Hid (¬ x ∈ l):=by have:=HX.out;rwa [htk] at this
   have hput:Hid (putS x l=ins ltS x l):=by
    show _=_
    unfold putS
    rw [if_neg (fun q=>hnx.out (memD_iff.1 q))]
   have hend:=HI.out
   rw [hdr] at hend
   have HE:=hide hend
   clear hend hdr htk
   cases dn with
   | true=>
    simp only [Bool.toNat_true] at hml
    go_wp2
    go_ret2
    refine ⟨_,by rw [memD_false hnx.out];rfl,HC.out.1,?_⟩
    rw [hput.out,← HE.out,(insTo_end x m).1]
    exact rd_own HC.out.2
   | false=>
    simp only [Bool.toNat_false] at hml
    go_wp2_with (at_builtin;refine wpList_append_own _ rfl (.tmp 45) (.tmp 47) 58 rfl w.heap.size 9 i0 (.string ByteArray.empty) 1 16 Tryz.underlying58 hi0 hz0 hz1 hz2 rfl (by decide) _ _ _ rfl (HC.out.2.alloc _) ⟨wr.heap.size,0,none⟩ 1 1 [.string x] rfl rfl (cell_one_new _ _ _) (by intro u hu;simp at hu;subst hu;rfl) (by unfold maxLen;omega) (by omega) (by simp;omega) ?_;intro v3 w3 hown3 hgrow3 _;have HC3:=hide (cur_append HC.out hown3 hgrow3);clear hown3 hgrow3)
    go_ret2
    refine ⟨_,by rw [memD_false hnx.out];rfl,HC3.out.1,?_⟩
    rw [hput.out,← HE.out,(insTo_end x m).2]
    exact rd_own HC3.out.2
theorem putText_any {v:Value} {l:List ByteArray} (x:ByteArray) {w:World} (h:Rd w v l) (hl:l.length≤4194304) :
  Calls Tryz.prog 166 #[v, .string x] w fun e w'=>∃ v',e=.returned (.tuple #[v', .bool (!memD x l)])∧Below w.heap.size w w'∧Rd w' v' (putS x l):=by
 obtain ⟨a,c,rfl,_,_⟩:=rd_len h
 exact putText_core a c l x w h hl
end Go.Proofs.YtkncboinfcnklaaGreatDoor

namespace Go.Proofs.YtkncboinfcnklaaGreatDoor
open Go.RowKit Go.Deep Go.Proofs.YtkncboinfcnklaaGreatDoor.Mth
theorem idx_at (s:ByteArray) (k:Nat) (h:k < s.size) (w:World):(Instr.index 9 (.string s) (.int .i64 (k:Int))).run Tryz.prog w=.ok (.int .u8 ((tb s).getD k 0)) w:=by
 rw [run_index_string (P:=Tryz.prog) w 9 s .i64 (k:Int) Tryz.underlying9,dif_pos ⟨by omega,by omega⟩,tb_get s k h]
 congr 3
 have hk:k < s.data.size:=h
 simp [List.getD,Array.getElem?_eq_getElem hk]
 rfl
theorem size_nums (l:List Int):(strOfNums l).size=l.length:=by
 unfold strOfNums
 simp [ByteArray.size]
theorem nums_app (a b:List Int):strOfNums a ++ strOfNums b=strOfNums (a ++ b):=by
 apply bytes_ext
 rw [ByteArray.data_append,Array.toList_append]
 unfold strOfNums
 simp
theorem add_at (a b:List Int) (w:World) (h:a.length + b.length≤1000000000):(Op.stringOp .add (strOfNums a) (strOfNums b)).run Tryz.prog w=.ok (.string (strOfNums (a ++ b))) w:=by
 rw [run_string_add_sum (P:=Tryz.prog) w _ _ (by rw [size_nums,size_nums];omega),nums_app]
theorem conv_one (w:World) (x:Int):(convert 158 9 (.slice (some ⟨w.heap.size,0,none⟩) 1 1)).run Tryz.prog (w.alloc (.cells #[.int .u8 x] 5))=.ok (.string (strOfNums [x])) (w.alloc (.cells #[.int .u8 x] 5)):=by
 refine run_convert_bytes_arg (P:=Tryz.prog) _ 158 5 Tryz.underlying158 Tryz.underlying5 w.heap.size 0 1 1 [x] rfl (fun i hi=>?_) 9 Tryz.underlying9
 have:i=0:=by omega
 subst this
 have:=cell_one_new w (.int .u8 x) 5 0 (.int .u8 x) rfl
 rwa [show (⟨w.heap.size,0,none⟩:Addr).add 0=⟨w.heap.size,0 + 0,none⟩ from by unfold Addr.add;split <;> simp_all] at this
theorem div_pow (n:Int) (k:Nat):n / 256 ^ k / 256=n / 256 ^ (k + 1):=by
 rw [Int.ediv_ediv_of_nonneg (Int.pow_nonneg (by omega)),Int.pow_succ]
set_option maxRecDepth 100000 in
set_option maxHeartbeats 1000000 in
theorem refBytes_any (n:Int) (many:Nat) (w:World) (h0:0≤n) (_h1:n < 9223372036854775808) (hm:many≤8) :
  Calls Tryz.prog 165 #[.int .i64 n, .int .i64 many] w fun e w'=>e=.returned (.string (strOfNums (num n many)))∧Below w.heap.size w w':=by
 go_enter Tryz.func165,Tryz.ntmps165
 go_wp2_with fail
 go_loopw [0,5,6] (fun nv s i wr=>∃ k:Nat,k≤many∧i=.int .i64 k∧nv=.int .i64 (n / 256 ^ k)∧s=.string (strOfNums (num n k))∧Below w.heap.size w wr) (fun _ _ i _=>many - (intOf i).toNat)
 case atStart=>exact ⟨0,Nat.zero_le _,rfl,by simp,by simp [num,strOfNums],Below.refl _ _⟩
 case round=>
  obtain ⟨k,hk,rfl,rfl,rfl,hb⟩:=hrel
  by_cases hlt:k < many
  ·have hnum:Hid (num n (k + 1)=(n / 256 ^ k % 256) :: num n k):=rfl
   have hdp:=hide (div_pow n k)
   have hnl:=num_len n k
   have e0:0≤n / 256 ^ k:=Int.ediv_nonneg h0 (Int.pow_nonneg (by omega))
   have e1:n / 256 ^ k≤n:=Int.ediv_le_self _ h0
   generalize n / 256 ^ k=q at *
   have hcv:=conv_one wr (q % 256)
   have hadd:=add_at [q % 256] (num n k) (wr.alloc (.cells #[.int .u8 (q % 256)] 5)) (by rw [hnl];simp;omega)
   have HB:=hide (hb.trans ((below_alloc wr (.cells #[.int .u8 (q % 256)] 5)).mono hb.size))
   clear hb
   go_wp2
   go_roundw
   case rel=>exact ⟨k + 1,by omega,by go_num,by rw [← hdp.out],by rw [hnum.out],HB.out⟩
   case measure=>simp [intOf];omega
  ·have hke:k=many:=by omega
   subst hke
   have HB:=hide hb
   clear hb
   go_wp2
   go_ret
   exact ⟨rfl,HB.out⟩
set_option maxRecDepth 100000 in
set_option maxHeartbeats 1000000 in
theorem refSum_any (s:ByteArray) (w:World) (hs:s.size≤1048576) :
  Calls Tryz.prog 168 #[.string s] w fun e w'=>e=.returned (.int .i64 (sumv (tb s)))∧w'=w:=by
 have HL:=hide (tb_len s)
 have HBT:=hide (tb_bts s)
 have HRC:=hide (refC_sm (tb s))
 go_enter Tryz.func168,Tryz.ntmps168
 go_wp2_with fail
 go_loop [3,4,5] (fun p q i=>∃ k:Nat,k≤s.size∧i=.int .i64 k∧∃ A C:Int,p=.int .i64 A∧q=.int .i64 C∧0≤A∧A < 65521∧0≤C∧C < 65521∧A=(sm ((tb s).take k)).1∧refC C ((tb s).drop k)=(sm (tb s)).2) (fun _ _ i=>s.size - (intOf i).toNat)
 case atStart=>
  refine ⟨0,Nat.zero_le _,rfl,1,(s.size:Int) % 65521,rfl,by first | rfl | go_num,by omega,by omega,by omega,by omega,rfl,?_⟩
  have:=HRC.out
  rw [HL.out] at this
  simpa using this
 case round=>
  obtain ⟨k,hk,rfl,A,C,rfl,rfl,h1,h2,h3,h4,hA,hC⟩:=hrel
  have HA:=hide hA
  have HCC:=hide hC
  clear hA hC
  by_cases hlt:k < s.size
  ·have hix:=idx_at s k hlt w
   have hx:=bts_get HBT.out k
   have hst:=hide (sm_take (l:=tb s) (k:=k) (by rw [HL.out];exact hlt))
   have hdr:=hide (drop_get (l:=tb s) (k:=k) (by rw [HL.out];exact hlt) 0)
   have hdl:Hid (((((tb s).drop (k + 1)).length:Nat):Int) + 1=(s.size:Int) - k):=by
    show _=_
    rw [List.length_drop,HL.out]
    omega
   generalize (tb s).getD k 0=x at *
   obtain ⟨x1,x2⟩:=hx
   have hr0:0≤((s.size:Int) - k) % 65521:=by omega
   have hr1:((s.size:Int) - k) % 65521 < 65521:=by omega
   have hmul0:0≤x * (((s.size:Int) - k) % 65521):=Int.mul_nonneg x1 hr0
   have hmul1:x * (((s.size:Int) - k) % 65521)≤256 * 65521:=Int.mul_le_mul (by omega) (by omega) hr0 (by omega)
   go_wp2
   go_round
   case rel=>
    refine ⟨k + 1,by omega,by go_num,(A + x) % 65521,(C + x * (((s.size:Int) - k) % 65521)) % 65521,by go_num,by go_num,by omega,by omega,by omega,by omega,?_,?_⟩
    ·rw [hst.out,HA.out];rfl
    ·have:=HCC.out
     rw [hdr.out,refC,hdl.out] at this
     exact this
   case measure=>simp [intOf];omega
  ·have hke:k=s.size:=by omega
   have hfull:(tb s).take k=tb s:=List.take_of_length_le (by rw [HL.out];omega)
   have hdr:(tb s).drop k=[]:=List.drop_eq_nil_of_le (by rw [HL.out];omega)
   have e1:=HA.out
   have e2:=HCC.out
   rw [hfull] at e1
   rw [hdr,refC] at e2
   have hsv:Hid (sumv (tb s)=65536 * C + A):=by
    show _=_
    unfold sumv
    rw [e1,e2]
   clear e1 e2 HA HCC hfull hdr
   go_wp2
   go_ret
   exact ⟨by rw [hsv.out];first | rfl | go_num,rfl⟩
end Go.Proofs.YtkncboinfcnklaaGreatDoor

namespace Go.Proofs.YtkncboinfcnklaaGreatDoor
open Go.RowKit Go.Deep Go.Proofs.YtkncboinfcnklaaGreatDoor.Mth
theorem ofL_size (l:List UInt8):(ofL l).size=l.length:=by simp [ofL,ByteArray.size]
theorem add_letter (cur:List UInt8) (c:Int) (w:World) (h:cur.length≤1000000000):(Op.stringOp .add (ofL cur) (strOfNums [c])).run Tryz.prog w=.ok (.string (ofL (cur ++ [UInt8.ofNat c.toNat]))) w:=by
 rw [run_string_add_sum (P:=Tryz.prog) w _ _ (by rw [ofL_size,size_nums];simp;omega)]
 congr 2
theorem cut_no {cur:List UInt8} {x:Int} {l:List Int} (h:ltr x=0):cut cur (x :: l)=(if cur.isEmpty then [] else [cur]) ++ cut [] l:=by
 rw [cut,if_pos h]
 split <;> simp
theorem cut_yes {cur:List UInt8} {x:Int} {l:List Int} (h:ltr x≠0):cut cur (x :: l)=cut (cur ++ [UInt8.ofNat (ltr x).toNat]) l:=by rw [cut,if_neg h]
theorem cut_end (cur:List UInt8):cut cur []=(if cur.isEmpty then [] else [cur]) ++ cut [] []:=by
 rw [cut,cut]
 simp
theorem ltr_bd (x:Int):0≤ltr x∧ltr x < 256:=by unfold ltr;split <;> (try split) <;> omega
def wput (cur:List UInt8) (m:List ByteArray):List ByteArray:=if cur.isEmpty then m else putS (ofL cur) m
theorem wput_mem (cur:List UInt8) (m:List ByteArray) (rest all:List (List UInt8)) (h:∀ x,(x ∈ m∨x ∈ ((if cur.isEmpty then [] else [cur]) ++ rest).map ofL)↔x ∈ all.map ofL):∀ x,(x ∈ wput cur m∨x ∈ rest.map ofL)↔x ∈ all.map ofL:=by
 intro x
 rw [← h x]
 unfold wput
 by_cases c:cur.isEmpty=true
 ·rw [if_pos c,if_pos c];simp
 ·rw [if_neg c,if_neg c,putS_mem,List.map_append,List.mem_append,List.map_singleton,List.mem_singleton]
  constructor
  ·rintro ((q | q) | q)
   ·exact Or.inr (Or.inl q)
   ·exact Or.inl q
   ·exact Or.inr (Or.inr q)
  ·rintro (q | q | q)
   ·exact Or.inl (Or.inr q)
   ·exact Or.inl (Or.inl q)
   ·exact Or.inr q
theorem wput_up {cur:List UInt8} {m:List ByteArray} (h:m.Pairwise ltS):(wput cur m).Pairwise ltS:=by
 unfold wput
 split
 ·exact h
 ·exact putS_up _ _ h
theorem wput_len (cur:List UInt8) (m:List ByteArray):(wput cur m).length≤m.length + 1:=by
 unfold wput
 split
 ·omega
 ·exact putS_len _ _
theorem ne_empty {cur:List UInt8} (h:cur.isEmpty=false):((ofL cur).toList == ([]:List UInt8))=false:=by
 rw [Lib.toList_data,ofL_data]
 cases cur with
 | nil=>simp at h
 | cons a l=>rfl
set_option maxRecDepth 100000 in
set_option maxHeartbeats 4000000 in
theorem refWords_any (s:ByteArray) (w:World) (hs:s.size≤1048576) :
  Calls Tryz.prog 109 #[.string s] w fun e w'=>∃ v',e=.returned v'∧Below w.heap.size w w'∧Rd w' v' (wd s):=by
 have HL:=hide (tb_len s)
 have HBT:=hide (tb_bts s)
 go_enter Tryz.func109,Tryz.ntmps109
 go_wp2_with fail
 go_loopw [3,4,5] (fun lv wv i wr=>∃ (k:Nat) (cur:List UInt8) (m:List ByteArray),k≤s.size + 1∧i=.int .i64 k∧wv=.string (ofL cur)∧Below w.heap.size w wr∧Rd wr lv m∧m.length≤k∧cur.length≤k∧m.Pairwise ltS∧(∀ x,(x ∈ m∨x ∈ (cut cur ((tb s).drop k)).map ofL)↔x ∈ (cut [] (tb s)).map ofL)∧(k=s.size + 1→cur=[])) (fun _ _ i _=>s.size + 1 - (intOf i).toNat)
 case atStart=>exact ⟨0,[],[],Nat.zero_le _,rfl,rfl,Below.refl _ _,⟨none,0,rfl,Nat.le_refl _,by unfold maxLen;omega,fun _=>rfl,Or.inl rfl⟩,Nat.le_refl _,Nat.le_refl _,List.Pairwise.nil,fun x=>by simp,fun h=>by omega⟩
 case round=>
  obtain ⟨k,cur,m,hk,rfl,rfl,hb,hrd,hml,hcl,hup,hall,hend⟩:=hrel
  have HB:=hide hb
  have HR:=hide hrd
  have HU:=hide hup
  have HA:=hide hall
  have HE:=hide hend
  obtain ⟨la,lc,rfl,hlc,hlm⟩:=rd_len hrd
  have hsz:=hb.size
  clear hb hrd hup hall hend
  by_cases hlt:k < s.size
  ·have hix:=idx_at s k hlt wr
   have hx:=bts_get HBT.out k
   have hdr:=hide (drop_get (l:=tb s) (k:=k) (by rw [HL.out];exact hlt) 0)
   generalize (tb s).getD k 0=x at *
   obtain ⟨x1,x2⟩:=hx
   have CL:=hide (fun w=>letter_any x w x1 x2)
   have hlb:=ltr_bd x
   have HLT:Hid (ltr x=ltr x):=rfl
   by_cases hl0:ltr x=0
   ·have HALL:=hide (fun z=>wput_mem cur m (cut [] ((tb s).drop (k + 1))) (cut [] (tb s)) (by have:=HA.out;rw [hdr.out,cut_no hl0] at this;exact this) z)
    rw [hl0] at CL
    clear hl0 hlb HLT
    cases hce:cur.isEmpty with
    | true=>
     have hcn:cur=[]:=List.isEmpty_iff.1 hce
     subst hcn
     have hne:((ofL []).toList == ([]:List UInt8))=true:=by rw [Lib.toList_data,ofL_data];rfl
     clear hce
     go_wp2_with (first | (go_at_call 189;refine (CL.out _).mono ?_;rintro e w' ⟨rfl,hw⟩;rw [hw];clear hw w'))
     go_roundw
     case rel=>exact ⟨k + 1,[],m,by omega,by go_num,rfl,HB.out,HR.out,by omega,by simp,HU.out,HALL.out,fun _=>rfl⟩
     case measure=>simp [intOf];omega
    | false=>
     have hne:=ne_empty hce
     have hwp:Hid (wput cur m=putS (ofL cur) m):=by show _=_;unfold wput;rw [hce];rfl
     have hwl:=wput_len cur m
     have CP:=hide (putText_any (ofL cur) HR.out (by omega))
     clear hce
     go_wp2_with (first | (go_at_call 189;refine (CL.out _).mono ?_;rintro e w' ⟨rfl,hw⟩;rw [hw];clear hw w') | (go_at_call 166;refine CP.out.mono ?_;rintro e w2 ⟨v2,rfl,hb2,hr2⟩;have HB2:=hide hb2;have HR2:=hide hr2;clear hb2 hr2))
     go_roundw
     case rel=>exact ⟨k + 1,[],wput cur m,by omega,by go_num,rfl,HB.out.trans (HB2.out.mono hsz),by rw [hwp.out];exact HR2.out,by omega,by simp,wput_up HU.out,HALL.out,fun _=>rfl⟩
     case measure=>simp [intOf];omega
   ·have HALL:Hid (∀ z,(z ∈ m∨z ∈ (cut (cur ++ [UInt8.ofNat (ltr x).toNat]) ((tb s).drop (k + 1))).map ofL)↔z ∈ (cut [] (tb s)).map ofL):=by
     have:=HA.out
     rw [hdr.out,cut_yes hl0] at this
     exact this
    have hl0b:(ltr x == 0)=false:=by simpa using hl0
    generalize ltr x=y at *
    have hcv:=conv_one wr y
    have hadd:=add_letter cur y (wr.alloc (.cells #[.int .u8 y] 5)) (by omega)
    have HB1:=hide (HB.out.trans ((below_alloc wr (.cells #[.int .u8 y] 5)).mono hsz))
    have HR1:=hide (HR.out.below (below_alloc wr (.cells #[.int .u8 y] 5)))
    clear HLT
    go_wp2_with (first | (go_at_call 189;refine (CL.out _).mono ?_;rintro e w' ⟨rfl,hw⟩;rw [hw];clear hw w'))
    go_roundw
    case rel=>exact ⟨k + 1,cur ++ [UInt8.ofNat y.toNat],m,by omega,by go_num,rfl,HB1.out,HR1.out,by omega,by rw [List.length_append,List.length_singleton];omega,HU.out,HALL.out,fun h=>by omega⟩
    case measure=>simp [intOf];omega
  ·by_cases hke:k=s.size
   ·subst hke
    have hdr0:(tb s).drop s.size=[]:=List.drop_eq_nil_of_le (by rw [HL.out];exact Nat.le_refl _)
    have hdr1:(tb s).drop (s.size + 1)=[]:=List.drop_eq_nil_of_le (by rw [HL.out];omega)
    have HALL:=hide (fun z=>wput_mem cur m (cut [] ((tb s).drop (s.size + 1))) (cut [] (tb s)) (by have:=HA.out;rw [hdr0,cut_end] at this;rw [hdr1];exact this) z)
    clear hdr0 hdr1
    cases hce:cur.isEmpty with
    | true=>
     have hcn:cur=[]:=List.isEmpty_iff.1 hce
     subst hcn
     have hne:((ofL []).toList == ([]:List UInt8))=true:=by rw [Lib.toList_data,ofL_data];rfl
     clear hce
     go_wp2
     go_roundw
     case rel=>exact ⟨s.size + 1,[],m,by omega,by go_num,rfl,HB.out,HR.out,by omega,by simp,HU.out,HALL.out,fun _=>rfl⟩
     case measure=>simp [intOf]
    | false=>
     have hne:=ne_empty hce
     have hwp:Hid (wput cur m=putS (ofL cur) m):=by show _=_;unfold wput;rw [hce];rfl
     have hwl:=wput_len cur m
     have CP:=hide (putText_any (ofL cur) HR.out (by omega))
     clear hce
     go_wp2_with (first | (go_at_call 166;refine CP.out.mono ?_;rintro e w2 ⟨v2,rfl,hb2,hr2⟩;have HB2:=hide hb2;have HR2:=hide hr2;clear hb2 hr2))
     go_roundw
     case rel=>exact ⟨s.size + 1,[],wput cur m,by omega,by go_num,rfl,HB.out.trans (HB2.out.mono hsz),by rw [hwp.out];exact HR2.out,by omega,by simp,wput_up HU.out,HALL.out,fun _=>rfl⟩
     case measure=>simp [intOf]
   ·have hke2:k=s.size + 1:=by omega
    have hc0:=HE.out hke2
    subst hke2 hc0
    have hfin:Hid (m=wd s):=by
     refine wd_of HU.out (fun x=>?_)
     rw [← HA.out x,List.drop_eq_nil_of_le (by rw [HL.out];omega)]
     simp [cut]
    clear hlt hke
    go_wp2
    go_ret
    exact ⟨_,rfl,HB.out,by rw [← hfin.out];exact HR.out⟩
end Go.Proofs.YtkncboinfcnklaaGreatDoor

namespace Go.Proofs.YtkncboinfcnklaaGreatDoor
open Go.RowKit Go.Deep Go.Proofs.YtkncboinfcnklaaGreatDoor.Mth
set_option maxRecDepth 100000 in
set_option maxHeartbeats 1000000 in
theorem refHas_any (s x:ByteArray) (w:World) (hs:s.size≤1048576) :
  Calls Tryz.prog 167 #[.string s, .string x] w fun e w'=>e=.returned (.bool (memD x (wd s)))∧Below w.heap.size w w':=by
 have CW:=hide (refWords_any s w hs)
 have hwl:=wd_len s
 go_enter Tryz.func167,Tryz.ntmps167
 go_wp2_with fail
 refine CW.out.mono ?_
 rintro e w1 ⟨v1,rfl,hb1,hr1⟩
 have HB:=hide hb1
 have HR:=hide hr1
 obtain ⟨a,c,rfl,hc,hm⟩:=rd_len hr1
 unfold maxLen at hm
 clear hb1 hr1 CW
 generalize hL:wd s=l at *
 generalize hn:l.length=n at *
 have HN:=hide hn
 have HLL:=hide hL
 clear hn hL
 go_wp2_with fail
 go_loop [6] (fun i=>∃ k:Nat,k≤n∧i=.int .i64 k∧¬ x ∈ l.take k) (fun i=>n - (intOf i).toNat)
 case atStart=>exact ⟨0,Nat.zero_le _,rfl,by simp⟩
 case round=>
  obtain ⟨k,hk,rfl,hnot⟩:=hrel
  have HX:=hide hnot
  clear hnot
  by_cases hlt:k < n
  ·obtain ⟨b,o,rfl,hblt,hcell⟩:=rd_at HR.out k (by rw [HN.out];exact hlt)
   have htk:Hid (l.take (k + 1)=l.take k ++ [l.getD k ByteArray.empty]):=by
    show _=_
    rw [List.take_succ_eq_append_getElem (by rw [HN.out];exact hlt)]
    simp [List.getD,show k < l.length by rw [HN.out];exact hlt]
   have hmem:Hid (l.getD k ByteArray.empty ∈ l):=by
    show _ ∈ _
    rw [List.getD,List.getElem?_eq_getElem (by rw [HN.out];exact hlt)]
    exact List.getElem_mem _
   generalize l.getD k ByteArray.empty=y at *
   by_cases hy:y=x
   ·subst hy
    go_wp2
    go_ret
    exact ⟨by rw [HLL.out,memD_true hmem.out];rfl,HB.out⟩
   ·have q1:=eqS_false hy
    have hnx:Hid (¬ x ∈ l.take (k + 1)):=by
     show ¬ _
     rw [htk.out]
     simp only [List.mem_append,List.mem_singleton]
     rintro (q | q)
     ·exact HX.out q
     ·exact hy q.symm
    clear hy
    go_wp2
    go_round
    case rel=>exact ⟨k + 1,by omega,by go_num,hnx.out⟩
    case measure=>simp [intOf];omega
  ·have htk:l.take k=l:=List.take_of_length_le (by rw [HN.out];omega)
   have hnx:Hid (¬ x ∈ l):=by have:=HX.out;rwa [htk] at this
   clear htk
   go_wp2
   go_ret
   exact ⟨by rw [HLL.out,memD_false hnx.out];rfl,HB.out⟩
end Go.Proofs.YtkncboinfcnklaaGreatDoor

namespace Go.Proofs.YtkncboinfcnklaaGreatDoor
open Go.RowKit Go.Deep Go.Proofs.YtkncboinfcnklaaGreatDoor.Mth
theorem isE_no {s t:Int} {x:ByteArray} (h:isE ⟨s,t,x⟩=false):s < 0∨1000000000000 < s∨t < 0∨1000000000000 < t∨60 < x.size:=by
 unfold isE at h
 simp only [Bool.and_eq_false_iff,decide_eq_false_iff_not] at h
 omega
theorem isE_yes {s t:Int} {x:ByteArray} (h:isE ⟨s,t,x⟩=true):0≤s∧s≤1000000000000∧0≤t∧t≤1000000000000∧x.size≤60:=by
 unfold isE at h
 simp only [Bool.and_eq_true,decide_eq_true_iff] at h
 omega
set_option maxRecDepth 100000 in
set_option maxHeartbeats 4000000 in
theorem refIsSeg_core (a:Option Addr) (c:Nat) (l:List Ent) (w:World) (h:RdE w (.slice a l.length c) l) (h1:1≤l.length) (h64:l.length≤64) (r:Bool) (hr:Hid (r=(List.range l.length).all (okAt l))) :
  Calls Tryz.prog 102 #[.slice a l.length c] w fun e w'=>e=.returned (.bool r)∧Below w.heap.size w w':=by
 have HR:=hide h
 clear h
 generalize hn:l.length=n at *
 have HN:=hide hn
 clear hn
 have q1:decide ((n:Int) < 1)=false:=by simp;omega
 have q2:decide ((64:Int) < (n:Int))=false:=by simp;omega
 have q3:¬ (n:Int) < 1:=by omega
 have q4:¬ (64:Int) < (n:Int):=by omega
 go_enter Tryz.func102,Tryz.ntmps102
 go_wp2_with fail
 clear q1 q2 q3 q4
 go_loopw [3] (fun i wr=>∃ k:Nat,k≤n∧i=.int .i64 k∧Below w.heap.size w wr∧(∀ i,i < k→okAt l i=true)) (fun i _=>n - (intOf i).toNat)
 case atStart=>exact ⟨0,Nat.zero_le _,rfl,Below.refl _ _,fun i hi=>absurd hi (Nat.not_lt_zero _)⟩
 case round=>
  obtain ⟨k,hk,rfl,hb,hall⟩:=hrel
  have HALL0:=hide hall
  clear hall
  by_cases hlt:k < n
  ·have hrd:=HR.out.below hb
   obtain ⟨b,o,rfl,hblt,c0,c1,c2⟩:=rdE_at hrd k (by rw [HN.out];exact hlt)
   cases hE:isE (l.getD k e0) with
   | false=>
    have HOK:Hid (okAt l k=false):=by show _=_;unfold okAt;rw [hE];rfl
    generalize l.getD k e0=e at *
    obtain ⟨s,t,x⟩:=e
    have hno:=isE_no hE
    simp only at c0 c1 c2
    have HWB:=hide (hb.trans ((below_alloc wr (Obj.cells #[Value.int IntKind.i64 s,Value.int IntKind.i64 t,Value.string x] 66)).mono hb.size))
    clear hrd hE hb
    rcases hno with hno | hno | hno | hno | hno
    all_goals (go_wp2;all_goals (go_ret;exact ⟨by rw [hr.out,all_false hlt HOK.out];rfl,HWB.out⟩))
   | true=>
    by_cases hk0:k=0
    ·subst hk0
     have HOK:Hid (okAt l 0=true):=by show _=_;unfold okAt;rw [hE];simp
     generalize l.getD 0 e0=e at *
     obtain ⟨s,t,x⟩:=e
     obtain ⟨y0,y1,y2,y3,y4⟩:=isE_yes hE
     simp only [Nat.zero_mul,Nat.add_zero] at c0 c1 c2
     clear hrd hE
     go_wp2_with fail
     have hWb:=below_alloc wr (Obj.cells #[Value.int IntKind.i64 s,Value.int IntKind.i64 t,Value.string x] 66)
     have HWB:=hide (hb.trans (hWb.mono hb.size))
     clear c0 c1 c2 hWb hb
     generalize (wr.alloc (Obj.cells #[Value.int IntKind.i64 s,Value.int IntKind.i64 t,Value.string x] 66))=W at *
     generalize wr.heap.size=nb at *
     refine wp_region_quiet_below (by kernel_rfl) (by kernel_rfl) ?_
     repeat (go_big_quiet_step (fail))
     refine wpQuiet_nil ?_
     intro _ hw'
     obtain ⟨⟨dq,osq⟩,hw''⟩:=hw'
     subst hw''
     have HB1:=hide (below_regrown W dq osq)
     generalize Sort.grow (redrawn W dq) osq=w1 at *
     go_wp2
     go_roundw
     case rel=>exact ⟨1,by omega,by go_num,HWB.out.trans (HB1.out.mono HWB.out.size),fun i hi=>by have:i=0:=(by omega);subst this;exact HOK.out⟩
     case measure=>simp [intOf];omega
    ·have hrd':=hrd
     obtain ⟨b',o',e',_,d0,d1,d2⟩:=rdE_at hrd' (k - 1) (by rw [HN.out];omega)
     injection e' with e'
     injection e' with e1 e2
     subst e1 e2
     have hok:Hid (okAt l k=fol (l.getD k e0) (l.getD (k - 1) e0)):=by show _=_;unfold okAt;rw [hE];simp [hk0]
     generalize l.getD k e0=e at *
     generalize l.getD (k - 1) e0=e' at *
     obtain ⟨s,t,x⟩:=e
     obtain ⟨s',t',x'⟩:=e'
     obtain ⟨y0,y1,y2,y3,y4⟩:=isE_yes hE
     simp only at c0 c1 c2 d0 d1 d2
     clear hrd hrd' hE
     have hbwr:b < wr.heap.size:=hblt
     go_wp2_with fail
     have k0:(wr.alloc (Obj.cells #[Value.int IntKind.i64 s,Value.int IntKind.i64 t,Value.string x] 66)).cell? ⟨wr.heap.size,0,none⟩=some (.int .i64 s):=by simp
     have k1:(wr.alloc (Obj.cells #[Value.int IntKind.i64 s,Value.int IntKind.i64 t,Value.string x] 66)).cell? ⟨wr.heap.size,1,none⟩=some (.int .i64 t):=by simp
     have hWb:=below_alloc wr (Obj.cells #[Value.int IntKind.i64 s,Value.int IntKind.i64 t,Value.string x] 66)
     have g0:=(hWb.cell (p:=⟨b,o + (k - 1) * 3,none⟩) hbwr).trans d0
     have g1:=(hWb.cell (p:=⟨b,o + (k - 1) * 3 + 1,none⟩) hbwr).trans d1
     clear d0 d1 d2
     have hkk:(0:Int) < (k:Int):=by omega
     have hkk2:decide (0 < k)=true:=by simp;omega
     have HWB:=hide (hb.trans (hWb.mono hb.size))
     clear c0 c1 c2 hWb hb
     generalize (wr.alloc (Obj.cells #[Value.int IntKind.i64 s,Value.int IntKind.i64 t,Value.string x] 66))=W at *
     generalize wr.heap.size=nb at *
     have k0':=cell_regrown k0
     have k1':=cell_regrown k1
     have g0':=cell_regrown g0
     have g1':=cell_regrown g1
     clear hbwr hblt g0 g1
     by_cases hF1:s' < s
     ·have z1:decide (s≤s')=false:=by simp;omega
      have z2:¬ s≤s':=by omega
      by_cases hF2:t'≤t
      ·have z3:decide (t < t')=false:=by simp;omega
       have z4:¬ t < t':=by omega
       have HOK:Hid (okAt l k=true):=by rw [hok.out];show _=_;unfold fol;simp [hF1,hF2]
       clear hok
       refine wp_region_quiet_below (by kernel_rfl) (by kernel_rfl) ?_
       repeat (go_big_quiet_step (fail))
       refine wpQuiet_nil ?_
       intro _ hw'
       obtain ⟨⟨dq,osq⟩,hw''⟩:=hw'
       subst hw''
       have HB1:=hide (below_regrown W dq osq)
       clear k0' k1' g0' g1'
       generalize Sort.grow (redrawn W dq) osq=w1 at *
       go_wp2
       go_roundw
       case rel=>exact ⟨k + 1,by omega,by go_num,HWB.out.trans (HB1.out.mono HWB.out.size),fun i hi=>by by_cases c:i < k;exact HALL0.out i c;have:i=k:=(by omega);subst this;exact HOK.out⟩
       case measure=>simp [intOf];omega
      ·have z3:decide (t < t')=true:=by simp;omega
       have z4:t < t':=by omega
       have HOK:Hid (okAt l k=false):=by rw [hok.out];show _=_;unfold fol;simp [hF2]
       clear hok
       refine wp_region_quiet_below (by kernel_rfl) (by kernel_rfl) ?_
       repeat (go_big_quiet_step (fail))
       refine wpQuiet_nil ?_
       intro _ hw'
       obtain ⟨⟨dq,osq⟩,hw''⟩:=hw'
       subst hw''
       have HB1:=hide (below_regrown W dq osq)
       clear k0' k1' g0' g1'
       generalize Sort.grow (redrawn W dq) osq=w1 at *
       go_wp2
       go_ret
       exact ⟨by rw [hr.out,all_false hlt HOK.out];rfl,HWB.out.trans (HB1.out.mono HWB.out.size)⟩
     ·have z1:decide (s≤s')=true:=by simp;omega
      have z2:s≤s':=by omega
      have HOK:Hid (okAt l k=false):=by rw [hok.out];show _=_;unfold fol;simp [hF1]
      clear hok
      refine wp_region_quiet_below (by kernel_rfl) (by kernel_rfl) ?_
      repeat (go_big_quiet_step (fail))
      refine wpQuiet_nil ?_
      intro _ hw'
      obtain ⟨⟨dq,osq⟩,hw''⟩:=hw'
      subst hw''
      have HB1:=hide (below_regrown W dq osq)
      clear k0' k1' g0' g1'
      generalize Sort.grow (redrawn W dq) osq=w1 at *
      go_wp2
      go_ret
      exact ⟨by rw [hr.out,all_false hlt HOK.out];rfl,HWB.out.trans (HB1.out.mono HWB.out.size)⟩
  ·have HALL:Hid ((List.range n).all (okAt l)=true):=by
    show (List.range n).all (okAt l)=true
    rw [List.all_eq_true]
    intro i hi
    exact HALL0.out i (by have:=List.mem_range.1 hi;omega)
   go_wp2
   go_ret
   exact ⟨by rw [hr.out,HALL.out];rfl,hb⟩
def segD (l:List Ent):Bool:=decide (l.length≤64) && segB l
theorem segD_yes {l:List Ent}:segD l=true↔Seg l:=by
 unfold segD
 constructor
 ·intro h
  simp only [Bool.and_eq_true,decide_eq_true_iff] at h
  exact seg_of h.2 h.1
 ·intro h
  simp only [Bool.and_eq_true,decide_eq_true_iff]
  exact ⟨h.2.1,segB_of h⟩
set_option maxHeartbeats 400000 in
theorem refIsSeg_zero (a:Option Addr) (c:Nat) (w:World):Calls Tryz.prog 102 #[.slice a 0 c] w fun e w'=>e=.returned (.bool false)∧Below w.heap.size w w':=by
 go_enter Tryz.func102,Tryz.ntmps102
 go_wp2
 go_ret
 exact ⟨rfl,Below.refl _ _⟩
set_option maxHeartbeats 400000 in
theorem refIsSeg_big (a:Option Addr) (n c:Nat) (w:World) (h:64 < n):Calls Tryz.prog 102 #[.slice a n c] w fun e w'=>e=.returned (.bool false)∧Below w.heap.size w w':=by
 have q3:¬ (n:Int) < 1:=by omega
 have q4:(64:Int) < (n:Int):=by omega
 go_enter Tryz.func102,Tryz.ntmps102
 go_wp2
 go_ret
 exact ⟨rfl,Below.refl _ _⟩
theorem refIsSeg_any (v:Value) (l:List Ent) (w:World) (h:RdE w v l):Calls Tryz.prog 102 #[v] w fun e w'=>e=.returned (.bool (segD l))∧Below w.heap.size w w':=by
 obtain ⟨a,c,rfl,_,_⟩:=rdE_len h
 by_cases h64:l.length≤64
 ·by_cases h1:1≤l.length
  ·refine refIsSeg_core a c l w h h1 h64 (segD l) ?_
   show segD l=_
   unfold segD segB
   simp only [h1,h64,decide_true,Bool.true_and]
  ·have:l=[]:=List.length_eq_zero_iff.1 (by omega)
   subst this
   exact refIsSeg_zero a c w
 ·have:segD l=false:=by unfold segD;simp [h64]
  rw [this]
  exact refIsSeg_big a _ c w (by omega)
end Go.Proofs.YtkncboinfcnklaaGreatDoor
