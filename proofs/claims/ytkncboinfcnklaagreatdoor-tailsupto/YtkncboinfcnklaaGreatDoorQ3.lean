import Derived.Test.YtkncboinfcnklaaGreatDoorQ2
import Derived.Laws.Concat
set_option maxRecDepth 100000
set_option maxHeartbeats 8000000
namespace Go.Proofs.YtkncboinfcnklaaGreatDoor
open Go.RowKit Go.Deep Go.Proofs.YtkncboinfcnklaaGreatDoor.Mth
theorem ry (c:Int) (w:World) (h0:0≤c) (h1:c<256):Calls Tryz.prog 189 #[.int .u8 c] w fun e w'=>e=.returned (.int .u8 (xH c))∧w'=w:=by
 go_enter Tryz.func189,Tryz.ntmps189
 go_wp2
 all_goals go_ret
 all_goals refine⟨?_,rfl⟩
 all_goals (congr 2;unfold xH)
 all_goals first|(rw[if_pos (by omega)];first|rfl|omega|(simp;omega))|(rw[if_neg (by omega),if_pos (by omega)];first|rfl|omega)|(rw[if_neg (by omega),if_neg (by omega)];first|rfl|omega)
def vF (x:ByteArray) (l:List ByteArray):List ByteArray:=if ym x l then l else mN rW x l
theorem oF (x:ByteArray) (l:List ByteArray):(vF x l).length≤l.length+1:=by
 unfold vF;split
 ·omega
 ·rw[je];omega
theorem oG (x:ByteArray) (l:List ByteArray) (z:ByteArray):z∈vF x l↔z=x∨z∈l:=by
 unfold vF;split
 ·rename_i h
  have:=memD_iff.1 h;constructor
  ·exact Or.inr
  ·rintro (rfl|h) <;> assumption
 ·exact pe x l z
theorem js (x:ByteArray) (l:List ByteArray) (h:l.Pairwise rW):(vF x l).Pairwise rW:=by
 unfold vF;split
 ·exact h
 ·rename_i c
  exact gE sordS x l h (fun q=>c (vN q))
theorem qx {w:World}{a:Option Addr}{n c:Nat}{l:List ByteArray}(h:Rd w (.slice a n c) l) (j:Nat) (hj:j<l.length):∃b o,a=some ⟨b,o,none⟩∧b<w.heap.size∧w.cell? ⟨b,o+j,none⟩=some (.string (l.getD j ByteArray.empty)):=by
 obtain⟨a',c',e,hc,hm,hz,h⟩:=h
 injection e with e1 e2 e3
 rcases h with h|⟨b,o,e4,h⟩
 ·subst h;simp at hj
 ·exact⟨b,o,e1.trans e4,World.block_lt_of_cell? _ _ (h j hj),h j hj⟩
theorem sF {α:Type}{l:List α}{k:Nat}(h:k<l.length) (z:α):l.drop k=l.getD k z::l.drop (k+1):=by
 rw[List.drop_eq_getElem_cons h];simp[List.getD,h]
theorem xr {x y:ByteArray}(h:y≠x):(y.toList == x.toList)=false:=by rw[eq_eq];simpa using h
theorem n8 {x y:ByteArray}(h:rW x y):Op.bytesLess x.toList y.toList=true:=by rw[jh];simpa using h
theorem gG {x y:ByteArray}(h:¬rW x y):Op.bytesLess x.toList y.toList=false:=by rw[jh];simpa using h
theorem pD (a:Option Addr) (c:Nat) (l:List ByteArray) (x:ByteArray) (w:World) (h:Rd w (.slice a l.length c) l) (hl:l.length≤4194304) :
  Calls Tryz.prog 166 #[.slice a l.length c, .string x] w fun e w'=>∃v',e=.returned (.tuple #[v', .bool (!ym x l)])∧Below w.heap.size w w'∧Rd w' v' (vF x l):=by
 have HR:=zx h;obtain⟨i0,hi0,hz0,hz1,hz2⟩:=info_parts Tryz.info9
 have hcm:l.length≤c∧c≤maxLen:=by obtain⟨a',c',e,q1,q2,_⟩:=h;injection e with _ _ e;subst e;exact⟨q1,q2⟩
 obtain⟨hc,hm⟩:=hcm;unfold maxLen at hm;clear h;generalize hn:l.length=n at *;have HN:=zx hn;clear hn
 go_enter Tryz.func166,Tryz.ntmps166
 go_wp2_with fail
 go_loopw [6,7,8] (fun o d i wr=>∃(k:Nat) (dn:Bool) (m:List ByteArray),k≤n∧i=.int .i64 k∧d=.bool dn∧su w wr o m∧m.length≤k+dn.toNat∧ww rW x dn m (l.drop k)=mN rW x l∧¬x∈l.take k) (fun _ _ i _=>n-(intOf i).toNat)
 case atStart=>exact⟨0,false,[],Nat.zero_le _,rfl,rfl,⟨Below.refl _ _,World.ownsRow_nil _ _ _ _⟩,by simp,by simp[ww],by simp⟩
 case round=>
  obtain⟨k,dn,m,hk,rfl,rfl,hcur,hml,hins,hnot⟩:=hrel;have HC:=zx hcur;have HI:=zx hins;have HX:=zx hnot;have hsz:=hcur.1.size;clear hcur hins hnot;by_cases hlt:k<n
  ·obtain⟨b,o,rfl,hblt,hcell⟩:=qx HR.out k (by rw[HN.out];exact hlt);have hcell':=(HC.out.1.cell (p:=⟨b,o+k,none⟩) hblt).trans hcell;have hdr:=zx (sF (l:=l) (k:=k) (by rw[HN.out];exact hlt) ByteArray.empty)
   have htk:Hid (l.take (k+1)=l.take k++[l.getD k ByteArray.empty]):=by
    show _=_;rw[List.take_succ_eq_append_getElem (by rw[HN.out];exact hlt)];simp[List.getD,show k<l.length by rw[HN.out];exact hlt]
   have hmem:Hid (l.getD k ByteArray.empty∈l):=by
    show _∈_;rw[List.getD,List.getElem?_eq_getElem (by rw[HN.out];exact hlt)];exact List.getElem_mem _
   generalize l.getD k ByteArray.empty=y at *;clear hcell;by_cases hy:y=x
   ·subst hy;go_wp2;go_ret2;refine⟨_,by rw[vN hmem.out];rfl,HC.out.1,?_⟩;unfold vF;rw[if_pos (vN hmem.out)];exact HR.out.below HC.out.1
   ·have q1:=xr hy
    have hnx:Hid (¬x∈l.take (k+1)):=by
     show ¬_;rw[htk.out];simp only[List.mem_append,List.mem_singleton];rintro (q|q)
     ·exact HX.out q
     ·exact hy q.symm
    have HY:=zx hy;clear hy
    cases dn with
    | true=>
     simp only[Bool.toNat_true]at hml;go_wp2_with (at_builtin;refine wpList_append_own _ rfl (.tmp 36) (.tmp 41) 58 rfl w.heap.size 9 i0 (.string ByteArray.empty) 1 16 Tryz.underlying58 hi0 hz0 hz1 hz2 rfl (by decide) _ _ _ rfl (HC.out.2.alloc _) ⟨wr.heap.size,0,none⟩ 1 1 [.string y] rfl rfl (cell_one_new _ _ _) (by intro u hu;simp at hu;subst hu;rfl) (by unfold maxLen;omega) (by omega) (by simp;omega) ?_;intro v3 w3 hown3 hgrow3 _;have HC3:=zx (yW HC.out hown3 hgrow3);clear hown3 hgrow3)
     go_roundw
     case rel=>exact⟨k+1,true,m++[y],by omega,by go_num,rfl,HC3.out,by rw[List.length_append,List.length_singleton,Bool.toNat_true];omega,by rw[←HI.out,hdr.out,lA],hnx.out⟩
     case measure=>simp[intOf];omega
    | false=>
     simp only[Bool.toNat_false]at hml;by_cases hxy:rW x y
     ·have q2:=n8 hxy;have q3:=gG (x:=y) (y:=x) (fun q=>sordS.irr _ (sordS.tr _ _ _ hxy q));have HXY:=zx hxy;clear hxy
      go_wp2_with (first
       | (at_builtin;refine wpList_append_own _ rfl (.tmp 32) (.tmp 34) 58 rfl w.heap.size 9 i0 (.string ByteArray.empty) 1 16 Tryz.underlying58 hi0 hz0 hz1 hz2 rfl (by decide) _ _ _ rfl (HC.out.2.alloc _) ⟨wr.heap.size,0,none⟩ 1 1 [.string x] rfl rfl (cell_one_new _ _ _) (by intro u hu;simp at hu;subst hu;rfl) (by unfold maxLen;omega) (by omega) (by simp;omega) ?_;intro v3 w3 hown3 hgrow3 _;have HC3:=zx (yW HC.out hown3 hgrow3);have hcell3:=(HC3.out.1.cell (p:=⟨b,o+k,none⟩) hblt).trans ((HC.out.1.cell (p:=⟨b,o+k,none⟩) hblt).symm.trans hcell');have hsz3:=HC3.out.1.size;clear hown3 hgrow3)
       | (at_builtin;refine wpList_append_own _ rfl (.tmp 36) (.tmp 41) 58 rfl w.heap.size 9 i0 (.string ByteArray.empty) 1 16 Tryz.underlying58 hi0 hz0 hz1 hz2 rfl (by decide) _ _ _ rfl (HC3.out.2.alloc _) ⟨w3.heap.size,0,none⟩ 1 1 [.string y] rfl rfl (cell_one_new _ _ _) (by intro u hu;simp at hu;subst hu;rfl) (by unfold maxLen;simp only[List.length_append,List.length_singleton];omega) (by simp only[List.length_append,List.length_singleton];omega) (by simp;omega) ?_;intro v4 w4 hown4 hgrow4 _;have HC4:=zx (yW HC3.out hown4 hgrow4);clear hown4 hgrow4))
      go_roundw
      case rel=>exact⟨k+1,true,m++[x]++[y],by omega,by go_num,rfl,HC4.out,by simp only[List.length_append,List.length_singleton,Bool.toNat_true];omega,by rw[←HI.out,hdr.out,lB HXY.out],hnx.out⟩
      case measure=>simp[intOf];omega
     ·have q2:=gG hxy;have q3:=n8 (x:=y) (y:=x) ((sordS.tri x y).resolve_left hxy |>.resolve_left (fun q=>HY.out q.symm));have HXY:=zx hxy;clear hxy;go_wp2_with (at_builtin;refine wpList_append_own _ rfl (.tmp 36) (.tmp 41) 58 rfl w.heap.size 9 i0 (.string ByteArray.empty) 1 16 Tryz.underlying58 hi0 hz0 hz1 hz2 rfl (by decide) _ _ _ rfl (HC.out.2.alloc _) ⟨wr.heap.size,0,none⟩ 1 1 [.string y] rfl rfl (cell_one_new _ _ _) (by intro u hu;simp at hu;subst hu;rfl) (by unfold maxLen;omega) (by omega) (by simp;omega) ?_;intro v3 w3 hown3 hgrow3 _;have HC3:=zx (yW HC.out hown3 hgrow3);clear hown3 hgrow3)
      go_roundw
      case rel=>exact⟨k+1,false,m++[y],by omega,by go_num,rfl,HC3.out,by rw[List.length_append,List.length_singleton,Bool.toNat_false];omega,by rw[←HI.out,hdr.out,dl HXY.out],hnx.out⟩
      case measure=>simp[intOf];omega
  ·have hke:k=n:=by omega
   subst hke;have hdr:l.drop k=[]:=List.drop_eq_nil_of_le (by rw[HN.out];exact Nat.le_refl _);have htk:l.take k=l:=List.take_of_length_le (by rw[HN.out];exact Nat.le_refl _)
   have hnx:Hid (¬x∈l):=by have:=HX.out;rwa [htk]at this
   have hput:Hid (vF x l=mN rW x l):=by
    show _=_;unfold vF;rw[if_neg (fun q=>hnx.out (memD_iff.1 q))]
   have hend:=HI.out;rw[hdr]at hend;have HE:=zx hend;clear hend hdr htk
   cases dn with
   | true=>
    simp only[Bool.toNat_true]at hml;go_wp2;go_ret2;refine⟨_,by rw[ui hnx.out];rfl,HC.out.1,?_⟩;rw[hput.out,←HE.out,(qY x m).1];exact qC HC.out.2
   | false=>
    simp only[Bool.toNat_false]at hml;go_wp2_with (at_builtin;refine wpList_append_own _ rfl (.tmp 45) (.tmp 47) 58 rfl w.heap.size 9 i0 (.string ByteArray.empty) 1 16 Tryz.underlying58 hi0 hz0 hz1 hz2 rfl (by decide) _ _ _ rfl (HC.out.2.alloc _) ⟨wr.heap.size,0,none⟩ 1 1 [.string x] rfl rfl (cell_one_new _ _ _) (by intro u hu;simp at hu;subst hu;rfl) (by unfold maxLen;omega) (by omega) (by simp;omega) ?_;intro v3 w3 hown3 hgrow3 _;have HC3:=zx (yW HC.out hown3 hgrow3);clear hown3 hgrow3);go_ret2;refine⟨_,by rw[ui hnx.out];rfl,HC3.out.1,?_⟩;rw[hput.out,←HE.out,(qY x m).2];exact qC HC3.out.2
theorem vh {v:Value}{l:List ByteArray}(x:ByteArray){w:World}(h:Rd w v l) (hl:l.length≤4194304) :
  Calls Tryz.prog 166 #[v, .string x] w fun e w'=>∃v',e=.returned (.tuple #[v', .bool (!ym x l)])∧Below w.heap.size w w'∧Rd w' v' (vF x l):=by
 obtain⟨a,c,rfl,_,_⟩:=wK h;exact pD a c l x w h hl
theorem ly (s:ByteArray) (k:Nat) (h:k<s.size) (w:World):(Instr.index 9 (.string s) (.int .i64 (k:Int))).run Tryz.prog w=.ok (.int .u8 ((tb s).getD k 0)) w:=by
 rw[run_index_string (P:=Tryz.prog) w 9 s .i64 (k:Int) Tryz.underlying9,dif_pos ⟨by omega,by omega⟩,qD s k h];congr 3;have hk:k<s.data.size:=h;simp[List.getD,Array.getElem?_eq_getElem hk];rfl
theorem wS (l:List Int):(strOfNums l).size=l.length:=by
 unfold strOfNums;simp[ByteArray.size]
theorem eK (a b:List Int):strOfNums a++strOfNums b=strOfNums (a++b):=by
 apply wQ;rw[ByteArray.data_append,Array.toList_append];unfold strOfNums;simp
theorem xP (a b:List Int) (w:World) (h:a.length+b.length≤1000000000):(Op.stringOp .add (strOfNums a) (strOfNums b)).run Tryz.prog w=.ok (.string (strOfNums (a++b))) w:=by
 rw[run_string_add_sum (P:=Tryz.prog) w _ _ (by rw[wS,wS];omega),eK]
theorem nU (w:World) (x:Int):(convert 158 9 (.slice (some ⟨w.heap.size,0,none⟩) 1 1)).run Tryz.prog (w.alloc (.cells #[.int .u8 x] 5))=.ok (.string (strOfNums [x])) (w.alloc (.cells #[.int .u8 x] 5)):=by
 refine run_convert_bytes_arg (P:=Tryz.prog) _ 158 5 Tryz.underlying158 Tryz.underlying5 w.heap.size 0 1 1 [x] rfl (fun i hi=>?_) 9 Tryz.underlying9
 have:i=0:=by omega
 subst this;have:=cell_one_new w (.int .u8 x) 5 0 (.int .u8 x) rfl
 rwa [show(⟨w.heap.size,0,none⟩:Addr).add 0=⟨w.heap.size,0+0,none⟩ from by unfold Addr.add;split <;> simp_all]at this
theorem bl (n:Int) (k:Nat):n / 256 ^ k / 256=n / 256 ^ (k+1):=by
 rw[Int.ediv_ediv_of_nonneg (Int.pow_nonneg (by omega)),Int.pow_succ]
theorem yE (n:Int) (many:Nat) (w:World) (h0:0≤n) (_h1:n<9223372036854775808) (hm:many≤8) :
  Calls Tryz.prog 165 #[.int .i64 n, .int .i64 many] w fun e w'=>e=.returned (.string (strOfNums (num n many)))∧Below w.heap.size w w':=by
 go_enter Tryz.func165,Tryz.ntmps165
 go_wp2_with fail
 go_loopw [0,5,6] (fun nv s i wr=>∃k:Nat,k≤many∧i=.int .i64 k∧nv=.int .i64 (n / 256 ^ k)∧s=.string (strOfNums (num n k))∧Below w.heap.size w wr) (fun _ _ i _=>many-(intOf i).toNat)
 case atStart=>exact⟨0,Nat.zero_le _,rfl,by simp,by simp[num,strOfNums],Below.refl _ _⟩
 case round=>
  obtain⟨k,hk,rfl,rfl,rfl,hb⟩:=hrel;by_cases hlt:k<many
  ·have hnum:Hid (num n (k+1)=(n / 256 ^ k % 256)::num n k):=rfl;have hdp:=zx (bl n k);have hnl:=yo n k;have e0:0≤n / 256 ^ k:=Int.ediv_nonneg h0 (Int.pow_nonneg (by omega));have e1:n / 256 ^ k≤n:=Int.ediv_le_self _ h0;generalize n / 256 ^ k=q at *;have hcv:=nU wr (q % 256);have hadd:=xP [q % 256] (num n k) (wr.alloc (.cells #[.int .u8 (q % 256)] 5)) (by rw[hnl];simp;omega);have HB:=zx (hb.trans ((zi wr (.cells #[.int .u8 (q % 256)] 5)).mono hb.size));clear hb;go_wp2
   go_roundw
   case rel=>exact⟨k+1,by omega,by go_num,by rw[←hdp.out],by rw[hnum.out],HB.out⟩
   case measure=>simp[intOf];omega
  ·have hke:k=many:=by omega
   subst hke;have HB:=zx hb;clear hb;go_wp2;go_ret;exact⟨rfl,HB.out⟩
theorem lW (s:ByteArray) (w:World) (hs:s.size≤1048576) :
  Calls Tryz.prog 168 #[.string s] w fun e w'=>e=.returned (.int .i64 (rS (tb s)))∧w'=w:=by
 have HL:=zx (xS s);have HBT:=zx (uA s);have HRC:=zx (cW (tb s))
 go_enter Tryz.func168,Tryz.ntmps168
 go_wp2_with fail
 go_loop [3,4,5] (fun p q i=>∃k:Nat,k≤s.size∧i=.int .i64 k∧∃A C:Int,p=.int .i64 A∧q=.int .i64 C∧0≤A∧A<65521∧0≤C∧C<65521∧A=(sm ((tb s).take k)).1∧oZ C ((tb s).drop k)=(sm (tb s)).2) (fun _ _ i=>s.size-(intOf i).toNat)
 case atStart=>
  refine⟨0,Nat.zero_le _,rfl,1,(s.size:Int) % 65521,rfl,by first|rfl|go_num,by omega,by omega,by omega,by omega,rfl,?_⟩;have:=HRC.out;rw[HL.out]at this
  simpa using this
 case round=>
  obtain⟨k,hk,rfl,A,C,rfl,rfl,h1,h2,h3,h4,hA,hC⟩:=hrel;have HA:=zx hA;have HCC:=zx hC;clear hA hC;by_cases hlt:k<s.size
  ·have hix:=ly s k hlt w;have hx:=sd HBT.out k;have hst:=zx (cd (l:=tb s) (k:=k) (by rw[HL.out];exact hlt));have hdr:=zx (sF (l:=tb s) (k:=k) (by rw[HL.out];exact hlt) 0)
   have hdl:Hid (((((tb s).drop (k+1)).length:Nat):Int)+1=(s.size:Int)-k):=by
    show _=_;rw[List.length_drop,HL.out];omega
   generalize (tb s).getD k 0=x at *;obtain⟨x1,x2⟩:=hx
   have hr0:0≤((s.size:Int)-k) % 65521:=by omega
   have hr1:((s.size:Int)-k) % 65521<65521:=by omega
   have hmul0:0≤x*(((s.size:Int)-k) % 65521):=Int.mul_nonneg x1 hr0;have hmul1:x*(((s.size:Int)-k) % 65521)≤256*65521:=Int.mul_le_mul (by omega) (by omega) hr0 (by omega);go_wp2
   go_round
   case rel=>
    refine⟨k+1,by omega,by go_num,(A+x) % 65521,(C+x*(((s.size:Int)-k) % 65521)) % 65521,by go_num,by go_num,by omega,by omega,by omega,by omega,?_,?_⟩
    ·rw[hst.out,HA.out];rfl
    ·have:=HCC.out;rw[hdr.out,oZ,hdl.out]at this;exact this
   case measure=>simp[intOf];omega
  ·have hke:k=s.size:=by omega
   have hfull:(tb s).take k=tb s:=List.take_of_length_le (by rw[HL.out];omega);have hdr:(tb s).drop k=[]:=List.drop_eq_nil_of_le (by rw[HL.out];omega);have e1:=HA.out;have e2:=HCC.out;rw[hfull]at e1;rw[hdr,oZ]at e2
   have hsv:Hid (rS (tb s)=65536*C+A):=by
    show _=_;unfold rS;rw[e1,e2]
   clear e1 e2 HA HCC hfull hdr;go_wp2;go_ret;exact⟨by rw[hsv.out];first|rfl|go_num,rfl⟩
theorem eN (l:List UInt8):(wN l).size=l.length:=by simp[wN,ByteArray.size]
theorem kP (cur:List UInt8) (c:Int) (w:World) (h:cur.length≤1000000000):(Op.stringOp .add (wN cur) (strOfNums [c])).run Tryz.prog w=.ok (.string (wN (cur++[UInt8.ofNat c.toNat]))) w:=by
 rw[run_string_add_sum (P:=Tryz.prog) w _ _ (by rw[eN,wS];simp;omega)];congr 2
theorem Z9 {cur:List UInt8}{x:Int}{l:List Int}(h:xH x=0):cut cur (x::l)=(if cur.isEmpty then [] else [cur])++cut [] l:=by
 rw[cut,if_pos h]
 split <;> simp
theorem bj {cur:List UInt8}{x:Int}{l:List Int}(h:xH x≠0):cut cur (x::l)=cut (cur++[UInt8.ofNat (xH x).toNat]) l:=by rw[cut,if_neg h]
theorem bg (cur:List UInt8):cut cur []=(if cur.isEmpty then [] else [cur])++cut [] []:=by
 rw[cut,cut];simp
theorem gH (x:Int):0≤xH x∧xH x<256:=by unfold xH;split <;> (try split) <;> omega
def tD (cur:List UInt8) (m:List ByteArray):List ByteArray:=if cur.isEmpty then m else vF (wN cur) m
theorem oR (cur:List UInt8) (m:List ByteArray) (rest all:List (List UInt8)) (h:∀x,(x∈m∨x∈((if cur.isEmpty then [] else [cur])++rest).map wN)↔x∈all.map wN):∀x,(x∈tD cur m∨x∈rest.map wN)↔x∈all.map wN:=by
 intro x;rw[←h x];unfold tD;by_cases c:cur.isEmpty=true
 ·rw[if_pos c,if_pos c];simp
 ·rw[if_neg c,if_neg c,oG,List.map_append,List.mem_append,List.map_singleton,List.mem_singleton];constructor
  ·rintro ((q|q)|q)
   ·exact Or.inr (Or.inl q)
   ·exact Or.inl q
   ·exact Or.inr (Or.inr q)
  ·rintro (q|q|q)
   ·exact Or.inl (Or.inr q)
   ·exact Or.inl (Or.inl q)
   ·exact Or.inr q
theorem kJ {cur:List UInt8}{m:List ByteArray}(h:m.Pairwise rW):(tD cur m).Pairwise rW:=by
 unfold tD;split
 ·exact h
 ·exact js _ _ h
theorem oQ (cur:List UInt8) (m:List ByteArray):(tD cur m).length≤m.length+1:=by
 unfold tD;split
 ·omega
 ·exact oF _ _
theorem oD {cur:List UInt8}(h:cur.isEmpty=false):((wN cur).toList == ([]:List UInt8))=false:=by
 rw[Lib.toList_data,sJ]
 cases cur with
 | nil=>simp at h
 | cons a l=>rfl
theorem uI (s:ByteArray) (w:World) (hs:s.size≤1048576) :
  Calls Tryz.prog 109 #[.string s] w fun e w'=>∃v',e=.returned v'∧Below w.heap.size w w'∧Rd w' v' (wd s):=by
 have HL:=zx (xS s);have HBT:=zx (uA s)
 go_enter Tryz.func109,Tryz.ntmps109
 go_wp2_with fail
 go_loopw [3,4,5] (fun lv wv i wr=>∃(k:Nat) (cur:List UInt8) (m:List ByteArray),k≤s.size+1∧i=.int .i64 k∧wv=.string (wN cur)∧Below w.heap.size w wr∧Rd wr lv m∧m.length≤k∧cur.length≤k∧m.Pairwise rW∧(∀x,(x∈m∨x∈(cut cur ((tb s).drop k)).map wN)↔x∈(cut [] (tb s)).map wN)∧(k=s.size+1→cur=[])) (fun _ _ i _=>s.size+1-(intOf i).toNat)
 case atStart=>exact⟨0,[],[],Nat.zero_le _,rfl,rfl,Below.refl _ _,⟨none,0,rfl,Nat.le_refl _,by unfold maxLen;omega,fun _=>rfl,Or.inl rfl⟩,Nat.le_refl _,Nat.le_refl _,List.Pairwise.nil,fun x=>by simp,fun h=>by omega⟩
 case round=>
  obtain⟨k,cur,m,hk,rfl,rfl,hb,hrd,hml,hcl,hup,hall,hend⟩:=hrel;have HB:=zx hb;have HR:=zx hrd;have HU:=zx hup;have HA:=zx hall;have HE:=zx hend;obtain⟨la,lc,rfl,hlc,hlm⟩:=wK hrd;have hsz:=hb.size;clear hb hrd hup hall hend;by_cases hlt:k<s.size
  ·have hix:=ly s k hlt wr;have hx:=sd HBT.out k;have hdr:=zx (sF (l:=tb s) (k:=k) (by rw[HL.out];exact hlt) 0);generalize (tb s).getD k 0=x at *;obtain⟨x1,x2⟩:=hx;have CL:=zx (fun w=>ry x w x1 x2);have hlb:=gH x;have HLT:Hid (xH x=xH x):=rfl;by_cases hl0:xH x=0
   ·have HALL:=zx (fun z=>oR cur m (cut [] ((tb s).drop (k+1))) (cut [] (tb s)) (by have:=HA.out;rw[hdr.out,Z9 hl0]at this;exact this) z);rw[hl0]at CL;clear hl0 hlb HLT
    cases hce:cur.isEmpty with
    | true=>
     have hcn:cur=[]:=List.isEmpty_iff.1 hce;subst hcn
     have hne:((wN []).toList == ([]:List UInt8))=true:=by rw[Lib.toList_data,sJ];rfl
     clear hce;go_wp2_with (first|(go_at_call 189;refine(CL.out _).mono ?_;rintro e w' ⟨rfl,hw⟩;rw[hw];clear hw w'))
     go_roundw
     case rel=>exact⟨k+1,[],m,by omega,by go_num,rfl,HB.out,HR.out,by omega,by simp,HU.out,HALL.out,fun _=>rfl⟩
     case measure=>simp[intOf];omega
    | false=>
     have hne:=oD hce
     have hwp:Hid (tD cur m=vF (wN cur) m):=by show _=_;unfold tD;rw[hce];rfl
     have hwl:=oQ cur m;have CP:=zx (vh (wN cur) HR.out (by omega));clear hce;go_wp2_with (first|(go_at_call 189;refine(CL.out _).mono ?_;rintro e w' ⟨rfl,hw⟩;rw[hw];clear hw w')|(go_at_call 166;refine CP.out.mono ?_;rintro e w2 ⟨v2,rfl,hb2,hr2⟩;have HB2:=zx hb2;have HR2:=zx hr2;clear hb2 hr2))
     go_roundw
     case rel=>exact⟨k+1,[],tD cur m,by omega,by go_num,rfl,HB.out.trans (HB2.out.mono hsz),by rw[hwp.out];exact HR2.out,by omega,by simp,kJ HU.out,HALL.out,fun _=>rfl⟩
     case measure=>simp[intOf];omega
   ·have HALL:Hid (∀z,(z∈m∨z∈(cut (cur++[UInt8.ofNat (xH x).toNat]) ((tb s).drop (k+1))).map wN)↔z∈(cut [] (tb s)).map wN):=by
     have:=HA.out;rw[hdr.out,bj hl0]at this;exact this
    have hl0b:(xH x == 0)=false:=by simpa using hl0
    generalize xH x=y at *;have hcv:=nU wr y;have hadd:=kP cur y (wr.alloc (.cells #[.int .u8 y] 5)) (by omega);have HB1:=zx (HB.out.trans ((zi wr (.cells #[.int .u8 y] 5)).mono hsz));have HR1:=zx (HR.out.below (zi wr (.cells #[.int .u8 y] 5)));clear HLT;go_wp2_with (first|(go_at_call 189;refine(CL.out _).mono ?_;rintro e w' ⟨rfl,hw⟩;rw[hw];clear hw w'))
    go_roundw
    case rel=>exact⟨k+1,cur++[UInt8.ofNat y.toNat],m,by omega,by go_num,rfl,HB1.out,HR1.out,by omega,by rw[List.length_append,List.length_singleton];omega,HU.out,HALL.out,fun h=>by omega⟩
    case measure=>simp[intOf];omega
  ·by_cases hke:k=s.size
   ·subst hke;have hdr0:(tb s).drop s.size=[]:=List.drop_eq_nil_of_le (by rw[HL.out];exact Nat.le_refl _);have hdr1:(tb s).drop (s.size+1)=[]:=List.drop_eq_nil_of_le (by rw[HL.out];omega);have HALL:=zx (fun z=>oR cur m (cut [] ((tb s).drop (s.size+1))) (cut [] (tb s)) (by have:=HA.out;rw[hdr0,bg]at this;rw[hdr1];exact this) z);clear hdr0 hdr1
    cases hce:cur.isEmpty with
    | true=>
     have hcn:cur=[]:=List.isEmpty_iff.1 hce;subst hcn
     have hne:((wN []).toList == ([]:List UInt8))=true:=by rw[Lib.toList_data,sJ];rfl
     clear hce;go_wp2
     go_roundw
     case rel=>exact⟨s.size+1,[],m,by omega,by go_num,rfl,HB.out,HR.out,by omega,by simp,HU.out,HALL.out,fun _=>rfl⟩
     case measure=>simp[intOf]
    | false=>
     have hne:=oD hce
     have hwp:Hid (tD cur m=vF (wN cur) m):=by show _=_;unfold tD;rw[hce];rfl
     have hwl:=oQ cur m;have CP:=zx (vh (wN cur) HR.out (by omega));clear hce;go_wp2_with (first|(go_at_call 166;refine CP.out.mono ?_;rintro e w2 ⟨v2,rfl,hb2,hr2⟩;have HB2:=zx hb2;have HR2:=zx hr2;clear hb2 hr2))
     go_roundw
     case rel=>exact⟨s.size+1,[],tD cur m,by omega,by go_num,rfl,HB.out.trans (HB2.out.mono hsz),by rw[hwp.out];exact HR2.out,by omega,by simp,kJ HU.out,HALL.out,fun _=>rfl⟩
     case measure=>simp[intOf]
   ·have hke2:k=s.size+1:=by omega
    have hc0:=HE.out hke2;subst hke2 hc0
    have hfin:Hid (m=wd s):=by
     refine bG HU.out (fun x=>?_);rw[←HA.out x,List.drop_eq_nil_of_le (by rw[HL.out];omega)];simp[cut]
    clear hlt hke;go_wp2;go_ret;exact⟨_,rfl,HB.out,by rw[←hfin.out];exact HR.out⟩
theorem wI (s x:ByteArray) (w:World) (hs:s.size≤1048576) :
  Calls Tryz.prog 167 #[.string s, .string x] w fun e w'=>e=.returned (.bool (ym x (wd s)))∧Below w.heap.size w w':=by
 have CW:=zx (uI s w hs);have hwl:=qG s
 go_enter Tryz.func167,Tryz.ntmps167
 go_wp2_with fail;refine CW.out.mono ?_;rintro e w1 ⟨v1,rfl,hb1,hr1⟩;have HB:=zx hb1;have HR:=zx hr1;obtain⟨a,c,rfl,hc,hm⟩:=wK hr1;unfold maxLen at hm;clear hb1 hr1 CW;generalize hL:wd s=l at *;generalize hn:l.length=n at *;have HN:=zx hn;have HLL:=zx hL;clear hn hL;go_wp2_with fail
 go_loop [6] (fun i=>∃k:Nat,k≤n∧i=.int .i64 k∧¬x∈l.take k) (fun i=>n-(intOf i).toNat)
 case atStart=>exact⟨0,Nat.zero_le _,rfl,by simp⟩
 case round=>
  obtain⟨k,hk,rfl,hnot⟩:=hrel;have HX:=zx hnot;clear hnot;by_cases hlt:k<n
  ·obtain⟨b,o,rfl,hblt,hcell⟩:=qx HR.out k (by rw[HN.out];exact hlt)
   have htk:Hid (l.take (k+1)=l.take k++[l.getD k ByteArray.empty]):=by
    show _=_;rw[List.take_succ_eq_append_getElem (by rw[HN.out];exact hlt)];simp[List.getD,show k<l.length by rw[HN.out];exact hlt]
   have hmem:Hid (l.getD k ByteArray.empty∈l):=by
    show _∈_;rw[List.getD,List.getElem?_eq_getElem (by rw[HN.out];exact hlt)];exact List.getElem_mem _
   generalize l.getD k ByteArray.empty=y at *;by_cases hy:y=x
   ·subst hy;go_wp2;go_ret;exact⟨by rw[HLL.out,vN hmem.out];rfl,HB.out⟩
   ·have q1:=xr hy
    have hnx:Hid (¬x∈l.take (k+1)):=by
     show ¬_;rw[htk.out];simp only[List.mem_append,List.mem_singleton];rintro (q|q)
     ·exact HX.out q
     ·exact hy q.symm
    clear hy;go_wp2
    go_round
    case rel=>exact⟨k+1,by omega,by go_num,hnx.out⟩
    case measure=>simp[intOf];omega
  ·have htk:l.take k=l:=List.take_of_length_le (by rw[HN.out];omega)
   have hnx:Hid (¬x∈l):=by have:=HX.out;rwa [htk]at this
   clear htk;go_wp2;go_ret;exact⟨by rw[HLL.out,ui hnx.out];rfl,HB.out⟩
theorem aG {s t:Int}{x:ByteArray}(h:dR ⟨s,t,x⟩=false):s<0∨1000000000000<s∨t<0∨1000000000000<t∨60<x.size:=by
 unfold dR at h;simp only[Bool.and_eq_false_iff,decide_eq_false_iff_not]at h;omega
theorem pf {s t:Int}{x:ByteArray}(h:dR ⟨s,t,x⟩=true):0≤s∧s≤1000000000000∧0≤t∧t≤1000000000000∧x.size≤60:=by
 unfold dR at h;simp only[Bool.and_eq_true,decide_eq_true_iff]at h;omega
theorem rJ (a:Option Addr) (c:Nat) (l:List Ent) (w:World) (h:RdE w (.slice a l.length c) l) (h1:1≤l.length) (h64:l.length≤64) (r:Bool) (hr:Hid (r=(List.range l.length).all (vq l))) :
  Calls Tryz.prog 102 #[.slice a l.length c] w fun e w'=>e=.returned (.bool r)∧Below w.heap.size w w':=by
 have HR:=zx h;clear h;generalize hn:l.length=n at *;have HN:=zx hn;clear hn
 have q1:decide ((n:Int)<1)=false:=by simp;omega
 have q2:decide ((64:Int)<(n:Int))=false:=by simp;omega
 have q3:¬(n:Int)<1:=by omega
 have q4:¬(64:Int)<(n:Int):=by omega
 go_enter Tryz.func102,Tryz.ntmps102
 go_wp2_with fail;clear q1 q2 q3 q4
 go_loopw [3] (fun i wr=>∃k:Nat,k≤n∧i=.int .i64 k∧Below w.heap.size w wr∧(∀i,i<k→vq l i=true)) (fun i _=>n-(intOf i).toNat)
 case atStart=>exact⟨0,Nat.zero_le _,rfl,Below.refl _ _,fun i hi=>absurd hi (Nat.not_lt_zero _)⟩
 case round=>
  obtain⟨k,hk,rfl,hb,hall⟩:=hrel;have HALL0:=zx hall;clear hall;by_cases hlt:k<n
  ·have hrd:=HR.out.below hb;obtain⟨b,o,rfl,hblt,c0,c1,c2⟩:=uw hrd k (by rw[HN.out];exact hlt)
   cases hE:dR (l.getD k e0) with
   | false=>
    have HOK:Hid (vq l k=false):=by show _=_;unfold vq;rw[hE];rfl
    generalize l.getD k e0=e at *;obtain⟨s,t,x⟩:=e;have hno:=aG hE;simp only at c0 c1 c2;have HWB:=zx (hb.trans ((zi wr (Obj.cells #[Value.int IntKind.i64 s,Value.int IntKind.i64 t,Value.string x] 66)).mono hb.size));clear hrd hE hb
    rcases hno with hno|hno|hno|hno|hno
    all_goals (go_wp2;all_goals (go_ret;exact⟨by rw[hr.out,tX hlt HOK.out];rfl,HWB.out⟩))
   | true=>
    by_cases hk0:k=0
    ·subst hk0
     have HOK:Hid (vq l 0=true):=by show _=_;unfold vq;rw[hE];simp
     generalize l.getD 0 e0=e at *;obtain⟨s,t,x⟩:=e;obtain⟨y0,y1,y2,y3,y4⟩:=pf hE;simp only[Nat.zero_mul,Nat.add_zero]at c0 c1 c2;clear hrd hE;go_wp2_with fail;have hWb:=zi wr (Obj.cells #[Value.int IntKind.i64 s,Value.int IntKind.i64 t,Value.string x] 66);have HWB:=zx (hb.trans (hWb.mono hb.size));clear c0 c1 c2 hWb hb;generalize (wr.alloc (Obj.cells #[Value.int IntKind.i64 s,Value.int IntKind.i64 t,Value.string x] 66))=W at *;generalize wr.heap.size=nb at *;refine wp_region_quiet_below (by kernel_rfl) (by kernel_rfl) ?_
     repeat(go_big_quiet_step (fail))
     refine wpQuiet_nil ?_;intro _ hw';obtain⟨⟨dq,osq⟩,hw''⟩:=hw';subst hw'';have HB1:=zx (below_regrown W dq osq);generalize Sort.grow (redrawn W dq) osq=w1 at *;go_wp2
     go_roundw
     case rel=>exact⟨1,by omega,by go_num,HWB.out.trans (HB1.out.mono HWB.out.size),fun i hi=>by have:i=0:=(by omega);subst this;exact HOK.out⟩
     case measure=>simp[intOf];omega
    ·have hrd':=hrd;obtain⟨b',o',e',_,d0,d1,d2⟩:=uw hrd' (k-1) (by rw[HN.out];omega)
     injection e' with e'
     injection e' with e1 e2
     subst e1 e2
     have hok:Hid (vq l k=fol (l.getD k e0) (l.getD (k-1) e0)):=by show _=_;unfold vq;rw[hE];simp[hk0]
     generalize l.getD k e0=e at *;generalize l.getD (k-1) e0=e' at *;obtain⟨s,t,x⟩:=e;obtain⟨s',t',x'⟩:=e';obtain⟨y0,y1,y2,y3,y4⟩:=pf hE;simp only at c0 c1 c2 d0 d1 d2;clear hrd hrd' hE;have hbwr:b<wr.heap.size:=hblt;go_wp2_with fail
     have k0:(wr.alloc (Obj.cells #[Value.int IntKind.i64 s,Value.int IntKind.i64 t,Value.string x] 66)).cell? ⟨wr.heap.size,0,none⟩=some (.int .i64 s):=by simp
     have k1:(wr.alloc (Obj.cells #[Value.int IntKind.i64 s,Value.int IntKind.i64 t,Value.string x] 66)).cell? ⟨wr.heap.size,1,none⟩=some (.int .i64 t):=by simp
     have hWb:=zi wr (Obj.cells #[Value.int IntKind.i64 s,Value.int IntKind.i64 t,Value.string x] 66);have g0:=(hWb.cell (p:=⟨b,o+(k-1)*3,none⟩) hbwr).trans d0;have g1:=(hWb.cell (p:=⟨b,o+(k-1)*3+1,none⟩) hbwr).trans d1;clear d0 d1 d2
     have hkk:(0:Int)<(k:Int):=by omega
     have hkk2:decide (0<k)=true:=by simp;omega
     have HWB:=zx (hb.trans (hWb.mono hb.size));clear c0 c1 c2 hWb hb;generalize (wr.alloc (Obj.cells #[Value.int IntKind.i64 s,Value.int IntKind.i64 t,Value.string x] 66))=W at *;generalize wr.heap.size=nb at *;have k0':=cell_regrown k0;have k1':=cell_regrown k1;have g0':=cell_regrown g0;have g1':=cell_regrown g1;clear hbwr hblt g0 g1;by_cases hF1:s'<s
     ·have z1:decide (s≤s')=false:=by simp;omega
      have z2:¬s≤s':=by omega
      by_cases hF2:t'≤t
      ·have z3:decide (t<t')=false:=by simp;omega
       have z4:¬t<t':=by omega
       have HOK:Hid (vq l k=true):=by rw[hok.out];show _=_;unfold fol;simp[hF1,hF2]
       clear hok;refine wp_region_quiet_below (by kernel_rfl) (by kernel_rfl) ?_
       repeat(go_big_quiet_step (fail))
       refine wpQuiet_nil ?_;intro _ hw';obtain⟨⟨dq,osq⟩,hw''⟩:=hw';subst hw'';have HB1:=zx (below_regrown W dq osq);clear k0' k1' g0' g1';generalize Sort.grow (redrawn W dq) osq=w1 at *;go_wp2
       go_roundw
       case rel=>exact⟨k+1,by omega,by go_num,HWB.out.trans (HB1.out.mono HWB.out.size),fun i hi=>by by_cases c:i<k;exact HALL0.out i c;have:i=k:=(by omega);subst this;exact HOK.out⟩
       case measure=>simp[intOf];omega
      ·have z3:decide (t<t')=true:=by simp;omega
       have z4:t<t':=by omega
       have HOK:Hid (vq l k=false):=by rw[hok.out];show _=_;unfold fol;simp[hF2]
       clear hok;refine wp_region_quiet_below (by kernel_rfl) (by kernel_rfl) ?_
       repeat(go_big_quiet_step (fail))
       refine wpQuiet_nil ?_;intro _ hw';obtain⟨⟨dq,osq⟩,hw''⟩:=hw';subst hw'';have HB1:=zx (below_regrown W dq osq);clear k0' k1' g0' g1';generalize Sort.grow (redrawn W dq) osq=w1 at *;go_wp2;go_ret;exact⟨by rw[hr.out,tX hlt HOK.out];rfl,HWB.out.trans (HB1.out.mono HWB.out.size)⟩
     ·have z1:decide (s≤s')=true:=by simp;omega
      have z2:s≤s':=by omega
      have HOK:Hid (vq l k=false):=by rw[hok.out];show _=_;unfold fol;simp[hF1]
      clear hok;refine wp_region_quiet_below (by kernel_rfl) (by kernel_rfl) ?_
      repeat(go_big_quiet_step (fail))
      refine wpQuiet_nil ?_;intro _ hw';obtain⟨⟨dq,osq⟩,hw''⟩:=hw';subst hw'';have HB1:=zx (below_regrown W dq osq);clear k0' k1' g0' g1';generalize Sort.grow (redrawn W dq) osq=w1 at *;go_wp2;go_ret;exact⟨by rw[hr.out,tX hlt HOK.out];rfl,HWB.out.trans (HB1.out.mono HWB.out.size)⟩
  ·have HALL:Hid ((List.range n).all (vq l)=true):=by
    show(List.range n).all (vq l)=true;rw[List.all_eq_true];intro i hi;exact HALL0.out i (by have:=List.mem_range.1 hi;omega)
   go_wp2;go_ret;exact⟨by rw[hr.out,HALL.out];rfl,hb⟩
def oc (l:List Ent):Bool:=decide (l.length≤64)&&jP l
theorem segD_yes {l:List Ent}:oc l=true↔dQ l:=by
 unfold oc;constructor
 ·intro h;simp only[Bool.and_eq_true,decide_eq_true_iff]at h;exact aT h.2 h.1
 ·intro h;simp only[Bool.and_eq_true,decide_eq_true_iff];exact⟨h.2.1,cY h⟩
theorem rK (a:Option Addr) (c:Nat) (w:World):Calls Tryz.prog 102 #[.slice a 0 c] w fun e w'=>e=.returned (.bool false)∧Below w.heap.size w w':=by
 go_enter Tryz.func102,Tryz.ntmps102
 go_wp2;go_ret;exact⟨rfl,Below.refl _ _⟩
theorem pF (a:Option Addr) (n c:Nat) (w:World) (h:64<n):Calls Tryz.prog 102 #[.slice a n c] w fun e w'=>e=.returned (.bool false)∧Below w.heap.size w w':=by
 have q3:¬(n:Int)<1:=by omega
 have q4:(64:Int)<(n:Int):=by omega
 go_enter Tryz.func102,Tryz.ntmps102
 go_wp2;go_ret;exact⟨rfl,Below.refl _ _⟩
theorem pE (v:Value) (l:List Ent) (w:World) (h:RdE w v l):Calls Tryz.prog 102 #[v] w fun e w'=>e=.returned (.bool (oc l))∧Below w.heap.size w w':=by
 obtain⟨a,c,rfl,_,_⟩:=uX h;by_cases h64:l.length≤64
 ·by_cases h1:1≤l.length
  ·refine rJ a c l w h h1 h64 (oc l) ?_;show oc l=_;unfold oc jP;simp only[h1,h64,decide_true,Bool.true_and]
  ·have:l=[]:=List.length_eq_zero_iff.1 (by omega);subst this;exact rK a c w
 ·have:oc l=false:=by unfold oc;simp[h64]
  rw[this];exact pF a _ c w (by omega)
end Go.Proofs.YtkncboinfcnklaaGreatDoor
