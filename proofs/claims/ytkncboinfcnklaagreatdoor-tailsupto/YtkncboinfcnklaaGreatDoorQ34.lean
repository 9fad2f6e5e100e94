import Derived.Test.YtkncboinfcnklaaGreatDoorQ33
import Derived.Test.YtkncboinfcnklaaGreatDoorQ32
import Derived.Test.YtkncboinfcnklaaGreatDoorQ27
import Derived.Test.YtkncboinfcnklaaGreatDoorProg
import Derived.Laws.Slices
import Derived.Laws.Rows
import Derived.ProofKit
import Derived.Test.YtkncboinfcnklaaGreatDoorQ24
set_option maxRecDepth 100000
set_option maxHeartbeats 8000000
namespace Go.Proofs.YtkncboinfcnklaaGreatDoor.Lw
open Go.RowKit Go.Deep Go.Shelf Go.Proofs.YtkncboinfcnklaaGreatDoor.Mth Go.Proofs.YtkncboinfcnklaaGreatDoor.Rl
theorem cM:∀o∈ax pkS,bH o:=by
 intro o ho;have h2:=(aO pkS eT o ho).2.2;unfold ax at ho;simp only[List.mem_cons,List.not_mem_nil,or_false]at ho
 rcases ho with rfl|rfl|rfl|rfl|rfl|rfl|rfl|rfl|rfl|rfl|rfl|rfl|rfl|rfl|rfl|rfl|rfl|rfl|rfl|rfl|rfl|rfl|rfl|rfl|rfl|rfl|rfl
 all_goals exact⟨⟨by simp,by simp⟩,⟨by simp,by simp⟩,⟨by simp,by simp⟩,h2⟩
theorem Tab10B.mono {B B':Nat}{w:World}(h:Tab10B B w) (hB:B≤B'):Tab10B B' w:=fun w' hb=>h w' (hb.mono hB)
theorem lP {P:Lg→List Tl→Prop}{hi:Int}(hhi:14≤hi∧hi≤19) (hSH:SH P hi) (W0:World) (g0 g1 g2 g3 sv:Value) (Cs:List Cf) (ops:List Opr) (hs0:vv g0) (hs1:vv g1) (hs2:vv g2) (hG:RdC W0 g3 Cs) (hCl:Cs.length≤1048576) (ht:TabB W0.heap.size W0) (ht':Tab10B W0.heap.size W0) (hO:RdO W0 sv ops) (hOk:∀o∈ops,bH o) (hn:ops.length≤190000) :
  Calls Tryz.prog 12 #[.agg #[g0,g1,g2,g3],sv, .int .i64 10, .int .i64 hi] W0 fun e w'=>e=.returned (.bool true)∧Below W0.heap.size W0 w':=by
 have HG:=zx hG;have HCL:=zx hCl;have HT:=zx ht;have HTT:=zx ht';have HO:=zx hO;have HOK:=zx hOk;have HSH:Hid (SH P hi):=hSH;obtain⟨sa,sc,rfl,hsc,hsm⟩:=jz hO;unfold maxLen at hsm;obtain⟨a3,c3,rfl,_,_,_⟩:=hG;obtain⟨a0,n0,c0,rfl⟩:=hs0;obtain⟨a1,n1,c1,rfl⟩:=hs1;obtain⟨ga,gn,gc,rfl⟩:=hs2;generalize hn3:Cs.length=n3 at *;have HN3:=zx hn3;clear hn3 hSH;have HB1:=zx (zi W0 (Obj.cells #[.slice a0 n0 c0, .slice a1 n1 c1, .slice ga gn gc, .slice a3 n3 c3] 27));have HGB:=zx (yu W0 (Obj.cells #[.slice a0 n0 c0, .slice a1 n1 c1, .slice ga gn gc, .slice a3 n3 c3] 27) W0.heap.size rfl)
 have hlt1:W0.heap.size<(W0.alloc (Obj.cells #[.slice a0 n0 c0, .slice a1 n1 c1, .slice ga gn gc, .slice a3 n3 c3] 27)).heap.size:=by simp
 clear hO hOk ht ht' hCl;obtain⟨hh1,hh2⟩:=hhi;generalize hon:ops.length=on at *;have HON:=zx hon;clear hon
 go_enter Tryz.func12,Tryz.ntmps12
 go_wp2_with fail;generalize W0.alloc (Obj.cells #[.slice a0 n0 c0, .slice a1 n1 c1, .slice ga gn gc, .slice a3 n3 c3] 27)=w1 at *;refine(lI w1).mono ?_;rintro e w2 ⟨k0,k1,k2,k3,⟨p0,q0,r0,rfl⟩,⟨p1,q1,r1,rfl⟩,⟨p2,q2,r2,rfl⟩,⟨p3,q3,r3,rfl⟩,rfl,hb2,hk2⟩;have HB2:=zx hb2;have HK2:=zx hk2;have hs2:=hb2.size;clear hb2 hk2;have HS3:=zx (LH.new P w2 (.slice p0 q0 r0) (.slice p1 q1 r1) (.slice p2 q2 r2) (.slice p3 q3 r3));have HB3:=zx (zi w2 (Obj.cells #[.slice p0 q0 r0, .slice p1 q1 r1, .slice p2 q2 r2, .slice p3 q3 r3, .slice none 0 0, .slice none 0 0, .slice none 0 0, .slice none 0 0, .slice none 0 0, .slice none 0 0, .slice none 0 0, .slice none 0 0, .slice none 0 0, .slice none 0 0, .slice none 0 0] 91));go_wp2_with fail;generalize w2.alloc (Obj.cells #[.slice p0 q0 r0, .slice p1 q1 r1, .slice p2 q2 r2, .slice p3 q3 r3, .slice none 0 0, .slice none 0 0, .slice none 0 0, .slice none 0 0, .slice none 0 0, .slice none 0 0, .slice none 0 0, .slice none 0 0, .slice none 0 0, .slice none 0 0, .slice none 0 0] 91)=w3 at *;refine(pC w3).mono ?_;rintro e w4 ⟨og,rfl,hb4,hog,hbl4⟩;have HS4:=zx (HS3.out.keep hb4 hog (Mth.gI hbl4));have HB4:=zx (HB3.out.trans (hb4.mono HB3.out.size));have HBL4:=zx hbl4;have HB02:Hid (Below W0.heap.size W0 w2):=HB1.out.trans (HB2.out.mono HB1.out.size);have hso:=cM;have HSO:=zx hso;clear hb4 hbl4 hso HS3 HB3 hog;generalize hOP:ax pkS=OP at *
 have hol:Hid (OP.length=27):=by show _=_;rw[←hOP];rfl
 clear hOP;go_wp2_with fail
 go_loopw [11] (fun i wr=>∃k:Nat,k≤27∧i=.int .i64 k∧Below w2.heap.size w2 wr∧LH P (fun g=>g=og) wr w2.heap.size w2.heap.size (.slice p0 q0 r0) (.slice p1 q1 r1) (.slice p2 q2 r2) (.slice p3 q3 r3) (2*k)∧Blk wr og 94 (OP.flatMap oC)) (fun i _=>27-(intOf i).toNat)
 case atStart=>exact⟨0,by omega,rfl,HB4.out,HS4.out,HBL4.out⟩
 case round=>
  obtain⟨k,hk,rfl,hb,hsi,hbl⟩:=hrel;have HB:=zx hb;have HSI:=zx hsi;have HBL:=zx hbl;clear hb hsi hbl;by_cases hlt:k<27
  ·have hrd:=cV HBL.out (by rw[hol.out];omega);rw[hol.out]at hrd;obtain⟨b,o,e,_,c0',c1',c2',c3',c4',c5'⟩:=gL hrd k (by rw[hol.out];exact hlt)
   injection e with e
   injection e with e1 e2
   subst e1 e2;have hok:=HSO.out _ (nY (l:=OP) (j:=k) (by rw[hol.out];exact hlt) o0);generalize OP.getD k o0=op at *;by_cases h7:10≤op.k
   ·by_cases h9:op.k≤hi
    ·have HW:Hid (Below W0.heap.size W0 wr):=HB02.out.trans (HB.out.mono HB02.out.size);have CS:=zx (HSH.out.lh HSI.out op (TabB.mono (HT.out.next HW.out) HB02.out.size) (Tab10B.mono (HTT.out.next HW.out) HB02.out.size) HB.out.size (HK2.out.below HB.out) (by simp) hok h7 h9 (by omega));obtain⟨ok,oA,oB,oC',oS,oT⟩:=op;simp only[oV]at CS c0' c1' c2' c3' c4' c5' h7 h9;simp only[Nat.zero_add]at c0' c1' c2' c3' c4' c5';clear hok hrd;go_wp2_with fail;refine CS.out.mono ?_;rintro e w5 ⟨rfl,h2,h1,h3⟩;have H1:=zx (HB.out.trans h1);have H2:=zx h2;have H3:Hid (Blk w5 og 94 (OP.flatMap oC)):=(h3 og rfl).trans HBL.out;clear h1 h2 h3 CS c0' c1' c2' c3' c4' c5';go_wp2
     go_roundw
     case rel=>exact⟨k+1,by omega,by go_num,H1.out,H2.out,H3.out⟩
     case measure=>simp[intOf];omega
    ·obtain⟨ok,oA,oB,oC',oS,oT⟩:=op;simp only at c0' h7 h9;simp only[Nat.zero_add]at c0';clear hok hrd c1' c2' c3' c4' c5';go_wp2
     go_roundw
     case rel=>exact⟨k+1,by omega,by go_num,HB.out,(HSI.out.mono (by omega)),HBL.out⟩
     case measure=>simp[intOf];omega
   ·obtain⟨ok,oA,oB,oC',oS,oT⟩:=op;simp only at c0' h7;simp only[Nat.zero_add]at c0';clear hok hrd c1' c2' c3' c4' c5';go_wp2
    go_roundw
    case rel=>exact⟨k+1,by omega,by go_num,HB.out,(HSI.out.mono (by omega)),HBL.out⟩
    case measure=>simp[intOf];omega
  ·have HGW:=zx ((HB.out.block W0.heap.size (by omega)).trans ((HB2.out.block W0.heap.size hlt1).trans HGB.out));obtain⟨x0,_⟩:=zy (j:=0) (u:=.slice a0 n0 c0) HGW.out rfl;obtain⟨x1,_⟩:=zy (j:=1) (u:=.slice a1 n1 c1) HGW.out rfl;obtain⟨x2,_⟩:=zy (j:=2) (u:=.slice ga gn gc) HGW.out rfl;obtain⟨x3,_⟩:=zy (j:=3) (u:=.slice a3 n3 c3) HGW.out rfl;have HB0:Hid (Below W0.heap.size W0 wr):=HB02.out.trans (HB.out.mono HB02.out.size);have HG5:=zx (HG.out.below HB0.out);have HS6:=zx (LH.new P wr (.slice a0 n0 c0) (.slice a1 n1 c1) (.slice ga gn gc) (.slice a3 n3 c3));have HB6:=zx (zi wr (Obj.cells #[.slice a0 n0 c0, .slice a1 n1 c1, .slice ga gn gc, .slice a3 n3 c3, .slice none 0 0, .slice none 0 0, .slice none 0 0, .slice none 0 0, .slice none 0 0, .slice none 0 0, .slice none 0 0, .slice none 0 0, .slice none 0 0, .slice none 0 0, .slice none 0 0] 91));clear HSI HBL HGW HSO;go_wp2_with fail;generalize wr.alloc (Obj.cells #[.slice a0 n0 c0, .slice a1 n1 c1, .slice ga gn gc, .slice a3 n3 c3, .slice none 0 0, .slice none 0 0, .slice none 0 0, .slice none 0 0, .slice none 0 0, .slice none 0 0, .slice none 0 0, .slice none 0 0, .slice none 0 0, .slice none 0 0, .slice none 0 0] 91)=w6 at *;clear x0 x1 x2 x3;generalize wr=Win at *
   go_loopw [14] (fun i wr=>∃k:Nat,k≤on∧i=.int .i64 k∧Below Win.heap.size Win wr∧LH P (fun _=>False) wr Win.heap.size Win.heap.size (.slice a0 n0 c0) (.slice a1 n1 c1) (.slice ga gn gc) (.slice a3 n3 c3) (2*k)) (fun i _=>on-(intOf i).toNat)
   case atStart=>exact⟨0,by omega,rfl,HB6.out,HS6.out⟩
   case round=>
    obtain⟨k,hk,rfl,hb,hsi⟩:=hrel;have HBB:=zx hb;have HSI:=zx hsi;have HB0w:Hid (Below W0.heap.size W0 wr):=HB0.out.trans (hb.mono HB0.out.size);clear hb hsi;by_cases hlt2:k<on
    ·obtain⟨b,o,rfl,_,c0',c1',c2',c3',c4',c5'⟩:=gL (HO.out.below HB0w.out) k (by rw[HON.out];exact hlt2);have hok:=HOK.out _ (nY (l:=ops) (j:=k) (by rw[HON.out];exact hlt2) o0);generalize ops.getD k o0=op at *;by_cases h7:10≤op.k
     ·by_cases h9:op.k≤hi
      ·have CS:=zx (HSH.out.lh HSI.out op (TabB.mono (HT.out.next HB0w.out) HB0.out.size) (Tab10B.mono (HTT.out.next HB0w.out) HB0.out.size) HBB.out.size (HG5.out.below HBB.out) (by rw[HN3.out];exact HCL.out) hok h7 h9 (by omega));obtain⟨ok,oA,oB,oC',oS,oT⟩:=op;simp only[oV]at CS c0' c1' c2' c3' c4' c5' h7 h9;clear hok;go_wp2_with fail;refine CS.out.mono ?_;rintro e w7 ⟨rfl,h2,h1,_⟩;have H1:=zx (HBB.out.trans h1);have H2:=zx h2;have CW:=zx (li h2 (by omega));clear h1 h2 CS c0' c1' c2' c3' c4' c5';go_wp2_with fail;refine CW.out.mono ?_;rintro e w8 ⟨rfl,hb8⟩;have H8:=zx (H1.out.trans (hb8.mono H1.out.size));have S8:=zx (H2.out.below hb8);clear hb8 CW;go_wp2
       go_roundw
       case rel=>exact⟨k+1,by omega,by go_num,H8.out,S8.out⟩
       case measure=>simp[intOf];omega
      ·obtain⟨ok,oA,oB,oC',oS,oT⟩:=op;simp only at c0' h7 h9;clear hok c1' c2' c3' c4' c5';go_wp2
       go_roundw
       case rel=>exact⟨k+1,by omega,by go_num,HBB.out,(HSI.out.mono (by omega))⟩
       case measure=>simp[intOf];omega
     ·obtain⟨ok,oA,oB,oC',oS,oT⟩:=op;simp only at c0' h7;clear hok c1' c2' c3' c4' c5';go_wp2
      go_roundw
      case rel=>exact⟨k+1,by omega,by go_num,HBB.out,(HSI.out.mono (by omega))⟩
      case measure=>simp[intOf];omega
    ·go_wp2;go_ret;exact⟨rfl,HB0w.out⟩
def TyB (W W2:World):Prop:=∀k,W.heap.size≤k→k<W2.heap.size→∃C t,W2.heap[k]? = some (Obj.cells C t (0,0))∧(t=94∨t=245)
theorem TyB.non {W W2:World}(h:TyB W W2):∀k,W.heap.size≤k→k<W2.heap.size→¬wM W2 k:=fun k h1 h2=>by
 obtain⟨C,t,h3,h4⟩:=h k h1 h2;rintro ⟨C',fr,h5⟩;rw[h3]at h5
 injection h5 with h5
 injection h5 with _ h5 _
 subst h5
 rcases h4 with e|e <;> exact absurd e (by decide)
theorem vp {W W2:World}{C1 C2:Array Value}(k0:W2.heap[W.heap.size]? = some (Obj.cells C1 94 (0,0))) (k1:W2.heap[W.heap.size+1]? = some (Obj.cells C2 245 (0,0))) (hs:W2.heap.size=W.heap.size+1+1):TyB W W2:=fun k h1 h2=>by
 rcases(show k=W.heap.size∨k=W.heap.size+1 by omega)with e|e
 ·rw[e];exact⟨_,_,k0,Or.inl rfl⟩
 ·rw[e];exact⟨_,_,k1,Or.inr rfl⟩
theorem fz {W:World}{lb:Nat}(A Bv Cv:Int) (S T:ByteArray) (R:Int→Int→World→Prop)
  (hq:∀W2,Below W.heap.size W W2→TyB W W2→Calls Tryz.prog 23 #[zr lb, .int .i64 Bv] W2 fun e w'=>∃n er,e=.returned (.tuple #[.int .i64 n, .int .i64 er])∧(∀k,W.heap.size≤k→k<W2.heap.size→w'.heap[k]? = W2.heap[k]?)∧∀w3,Tch (fun k=>W.heap.size≤k∧k<W2.heap.size) w' w3→R n er w3) :
  Calls Tryz.prog 133 #[zr lb,oV ⟨15,A,Bv,Cv,S,T⟩] W fun e w3=>∃n er,e=.returned (.agg (wO n er (.slice none 0 0) (.slice none 0 0)))∧R n er w3:=by
 obtain⟨W2,hW2,hb2,k0,k1,hs2⟩:=yb W ⟨15,A,Bv,Cv,S,T⟩;simp only[oV]at hW2 k0 ⊢;have CQ:=zx (hq W2 hb2 (vp k0 k1 hs2))
 have hN:∀er w,Calls Tryz.prog 114 #[.int .i64 er] w fun e w'=>e=.returned (.int .i64 er)∧w'=w:=fun er w=>yO er w
 have HNM:=zx hN;obtain⟨o0,_⟩:=zy (j:=0) (u:=.int .i64 15) k0 rfl;obtain⟨o2,_⟩:=zy (j:=2) (u:=.int .i64 Bv) k0 rfl;have HW2:=zx hW2;have HK1:=zx k1;have HS2:=zx hs2;clear hW2 hq hN hb2 k0 k1 hs2
 go_enter Tryz.func133,Tryz.ntmps133
 go_upto_region 1 with fail
 rw[←HW2.out]
 go_wp2_with (first
  | (go_at_call 23;refine CQ.out.mono ?_;rintro e w2 ⟨n,er,rfl,h1,h2⟩;have k2:=(h1 (W.heap.size+1) (by omega) (by rw[HS2.out];omega)).trans HK1.out;obtain⟨y0,f0⟩:=zy (j:=0) (u:=.int .i64 0) k2 rfl;obtain⟨y1,f1⟩:=zy (j:=1) (u:=.int .i64 0) k2 rfl;obtain⟨y2,f2⟩:=zy (j:=2) (u:=.slice none 0 0) k2 rfl;obtain⟨y3,f3⟩:=zy (j:=3) (u:=.slice none 0 0) k2 rfl;have HK2:=zx k2;have H2:=zx h2;clear h1 h2 k2)
  | (go_at_call 114;refine(HNM.out _ _).mono ?_;rintro e W ⟨rfl,hW⟩;rw[hW];clear hW W))
 have hset:=zh (j:=3) (v:=.slice none 0 0) (zh (j:=2) (v:=.slice none 0 0) (zh (j:=1) (v:=.int .i64 er) (zh (j:=0) (v:=.int .i64 n) HK2.out)));have hld:=run_loadVar_row (P:=Tryz.prog) _ (W.heap.size+1) 245 245 _ (0,0) _ hset Tryz.underlying245 rfl Tryz.sizeTold;refine bodyPost_ret (v:=.agg (#[.int .i64 n, .int .i64 er, .slice none 0 0, .slice none 0 0])) ?_ rfl ⟨n,er,rfl,H2.out _ ⟨rfl,rfl,rfl,by simp,fun k hk hn=>?_⟩⟩
 ·rw[za rfl];simp[asAddr,Result.andThen,hld]
 ·have hk':k≠W.heap.size+1:=fun e=>hn ⟨by omega,by rw[HS2.out];omega⟩
  rw[zt hk',zt hk',zt hk',zt hk']
theorem jU {W:World}{lb:Nat}(A Bv Cv:Int) (S T:ByteArray) (R:Int→Int→World→Prop)
  (hq:∀W2,Below W.heap.size W W2→TyB W W2→Calls Tryz.prog 206 #[zr lb, .int .i64 Bv] W2 fun e w'=>∃n er,e=.returned (.tuple #[.int .i64 n, .int .i64 er])∧(∀k,W.heap.size≤k→k<W2.heap.size→w'.heap[k]? = W2.heap[k]?)∧∀w3,Tch (fun k=>W.heap.size≤k∧k<W2.heap.size) w' w3→R n er w3) :
  Calls Tryz.prog 134 #[zr lb,oV ⟨15,A,Bv,Cv,S,T⟩] W fun e w3=>∃n er,e=.returned (.agg (wO n er (.slice none 0 0) (.slice none 0 0)))∧R n er w3:=by
 obtain⟨W2,hW2,hb2,k0,k1,hs2⟩:=yb W ⟨15,A,Bv,Cv,S,T⟩;simp only[oV]at hW2 k0 ⊢;have CQ:=zx (hq W2 hb2 (vp k0 k1 hs2))
 have hN:∀er w,Calls Tryz.prog 114 #[.int .i64 er] w fun e w'=>e=.returned (.int .i64 er)∧w'=w:=fun er w=>yO er w
 have HNM:=zx hN;obtain⟨o0,_⟩:=zy (j:=0) (u:=.int .i64 15) k0 rfl;obtain⟨o2,_⟩:=zy (j:=2) (u:=.int .i64 Bv) k0 rfl;have HW2:=zx hW2;have HK1:=zx k1;have HS2:=zx hs2;clear hW2 hq hN hb2 k0 k1 hs2
 go_enter Tryz.func134,Tryz.ntmps134
 go_upto_region 1 with fail
 rw[←HW2.out]
 go_wp2_with (first
  | (go_at_call 206;refine CQ.out.mono ?_;rintro e w2 ⟨n,er,rfl,h1,h2⟩;have k2:=(h1 (W.heap.size+1) (by omega) (by rw[HS2.out];omega)).trans HK1.out;obtain⟨y0,f0⟩:=zy (j:=0) (u:=.int .i64 0) k2 rfl;obtain⟨y1,f1⟩:=zy (j:=1) (u:=.int .i64 0) k2 rfl;obtain⟨y2,f2⟩:=zy (j:=2) (u:=.slice none 0 0) k2 rfl;obtain⟨y3,f3⟩:=zy (j:=3) (u:=.slice none 0 0) k2 rfl;have HK2:=zx k2;have H2:=zx h2;clear h1 h2 k2)
  | (go_at_call 114;refine(HNM.out _ _).mono ?_;rintro e W ⟨rfl,hW⟩;rw[hW];clear hW W))
 have hset:=zh (j:=3) (v:=.slice none 0 0) (zh (j:=2) (v:=.slice none 0 0) (zh (j:=1) (v:=.int .i64 er) (zh (j:=0) (v:=.int .i64 n) HK2.out)));have hld:=run_loadVar_row (P:=Tryz.prog) _ (W.heap.size+1) 245 245 _ (0,0) _ hset Tryz.underlying245 rfl Tryz.sizeTold;refine bodyPost_ret (v:=.agg (#[.int .i64 n, .int .i64 er, .slice none 0 0, .slice none 0 0])) ?_ rfl ⟨n,er,rfl,H2.out _ ⟨rfl,rfl,rfl,by simp,fun k hk hn=>?_⟩⟩
 ·rw[za rfl];simp[asAddr,Result.andThen,hld]
 ·have hk':k≠W.heap.size+1:=fun e=>hn ⟨by omega,by rw[HS2.out];omega⟩
  rw[zt hk',zt hk',zt hk',zt hk']
theorem Zv {W:World}{lb:Nat}(A Bv Cv:Int) (S T:ByteArray) (n:Int) (R:Value→World→Prop)
  (hp:∀W2,Below W.heap.size W W2→Calls Tryz.prog 24 #[zr lb] W2 fun e w'=>e=.returned (.int .i64 n)∧Below W2.heap.size W2 w')
  (hq:∀W2,Below W.heap.size W W2→Calls Tryz.prog 25 #[zr lb] W2 fun e w'=>∃v,e=.returned v∧vv v∧Below W2.heap.size W2 w'∧∀w3,Tch (fun k=>W.heap.size≤k∧k<W2.heap.size) w' w3→R v w3) :
  Calls Tryz.prog 133 #[zr lb,oV ⟨16,A,Bv,Cv,S,T⟩] W fun e w3=>∃v,e=.returned (.agg (wO n 0 (.slice none 0 0) v))∧vv v∧R v w3:=by
 obtain⟨W2,hW2,hb2,k0,k1,hs2⟩:=yb W ⟨16,A,Bv,Cv,S,T⟩;simp only[oV]at hW2 k0 ⊢;have CP:=zx (hp W2 hb2);have HQ:=zx hq;have HB2:=zx hb2;obtain⟨o0,_⟩:=zy (j:=0) (u:=.int .i64 16) k0 rfl;have HW2:=zx hW2;have HK1:=zx k1;have HS2:=zx hs2;clear hW2 hq hp hb2 k0 k1 hs2
 go_enter Tryz.func133,Tryz.ntmps133
 go_upto_region 1 with fail
 rw[←HW2.out]
 go_wp2_with (first
  | (go_at_call 24;refine CP.out.mono ?_;rintro e wp ⟨rfl,hbp⟩;have HBP:=zx (HB2.out.trans (hbp.mono HB2.out.size));have HKP:=zx ((hbp.block _ (by rw[HS2.out];omega)).trans HK1.out);have CQ:=zx (HQ.out wp HBP.out);have HSP:=zx hbp.size;clear hbp)
  | (go_at_call 25;refine CQ.out.mono ?_;rintro e w2 ⟨v,rfl,⟨va,vn,vc,rfl⟩,h1,h2⟩;have k2:=(h1.block (W.heap.size+1) (by have:=HSP.out;rw[HS2.out]at this;omega)).trans HKP.out;obtain⟨y0,f0⟩:=zy (j:=0) (u:=.int .i64 0) k2 rfl;obtain⟨y1,f1⟩:=zy (j:=1) (u:=.int .i64 0) k2 rfl;obtain⟨y2,f2⟩:=zy (j:=2) (u:=.slice none 0 0) k2 rfl;obtain⟨y3,f3⟩:=zy (j:=3) (u:=.slice none 0 0) k2 rfl;have HK2:=zx k2;have H2:=zx h2;clear h1 h2 k2))
 have hset:=zh (j:=3) (v:=.slice va vn vc) (zh (j:=2) (v:=.slice none 0 0) (zh (j:=1) (v:=.int .i64 0) (zh (j:=0) (v:=.int .i64 n) HK2.out)));have hld:=run_loadVar_row (P:=Tryz.prog) _ (W.heap.size+1) 245 245 _ (0,0) _ hset Tryz.underlying245 rfl Tryz.sizeTold;refine bodyPost_ret (v:=.agg (#[.int .i64 n, .int .i64 0, .slice none 0 0, .slice va vn vc])) ?_ rfl ⟨_,rfl,⟨_,_,_,rfl⟩,H2.out _ ⟨rfl,rfl,rfl,by simp,fun k hk hn=>?_⟩⟩
 ·rw[za rfl];simp[asAddr,Result.andThen,hld]
 ·have hk':k≠W.heap.size+1:=fun e=>hn ⟨by omega,by have:=HSP.out;rw[HS2.out]at this;omega⟩
  rw[zt hk',zt hk',zt hk',zt hk']
theorem bM {W:World}{lb:Nat}(A Bv Cv:Int) (S T:ByteArray) (n:Int) (R:Value→World→Prop)
  (hp:∀W2,Below W.heap.size W W2→Calls Tryz.prog 207 #[zr lb] W2 fun e w'=>e=.returned (.int .i64 n)∧Below W2.heap.size W2 w')
  (hq:∀W2,Below W.heap.size W W2→Calls Tryz.prog 208 #[zr lb] W2 fun e w'=>∃v,e=.returned v∧vv v∧Below W2.heap.size W2 w'∧∀w3,Tch (fun k=>W.heap.size≤k∧k<W2.heap.size) w' w3→R v w3) :
  Calls Tryz.prog 134 #[zr lb,oV ⟨16,A,Bv,Cv,S,T⟩] W fun e w3=>∃v,e=.returned (.agg (wO n 0 (.slice none 0 0) v))∧vv v∧R v w3:=by
 obtain⟨W2,hW2,hb2,k0,k1,hs2⟩:=yb W ⟨16,A,Bv,Cv,S,T⟩;simp only[oV]at hW2 k0 ⊢;have CP:=zx (hp W2 hb2);have HQ:=zx hq;have HB2:=zx hb2;obtain⟨o0,_⟩:=zy (j:=0) (u:=.int .i64 16) k0 rfl;have HW2:=zx hW2;have HK1:=zx k1;have HS2:=zx hs2;clear hW2 hq hp hb2 k0 k1 hs2
 go_enter Tryz.func134,Tryz.ntmps134
 go_upto_region 1 with fail
 rw[←HW2.out]
 go_wp2_with (first
  | (go_at_call 207;refine CP.out.mono ?_;rintro e wp ⟨rfl,hbp⟩;have HBP:=zx (HB2.out.trans (hbp.mono HB2.out.size));have HKP:=zx ((hbp.block _ (by rw[HS2.out];omega)).trans HK1.out);have CQ:=zx (HQ.out wp HBP.out);have HSP:=zx hbp.size;clear hbp)
  | (go_at_call 208;refine CQ.out.mono ?_;rintro e w2 ⟨v,rfl,⟨va,vn,vc,rfl⟩,h1,h2⟩;have k2:=(h1.block (W.heap.size+1) (by have:=HSP.out;rw[HS2.out]at this;omega)).trans HKP.out;obtain⟨y0,f0⟩:=zy (j:=0) (u:=.int .i64 0) k2 rfl;obtain⟨y1,f1⟩:=zy (j:=1) (u:=.int .i64 0) k2 rfl;obtain⟨y2,f2⟩:=zy (j:=2) (u:=.slice none 0 0) k2 rfl;obtain⟨y3,f3⟩:=zy (j:=3) (u:=.slice none 0 0) k2 rfl;have HK2:=zx k2;have H2:=zx h2;clear h1 h2 k2))
 have hset:=zh (j:=3) (v:=.slice va vn vc) (zh (j:=2) (v:=.slice none 0 0) (zh (j:=1) (v:=.int .i64 0) (zh (j:=0) (v:=.int .i64 n) HK2.out)));have hld:=run_loadVar_row (P:=Tryz.prog) _ (W.heap.size+1) 245 245 _ (0,0) _ hset Tryz.underlying245 rfl Tryz.sizeTold;refine bodyPost_ret (v:=.agg (#[.int .i64 n, .int .i64 0, .slice none 0 0, .slice va vn vc])) ?_ rfl ⟨_,rfl,⟨_,_,_,rfl⟩,H2.out _ ⟨rfl,rfl,rfl,by simp,fun k hk hn=>?_⟩⟩
 ·rw[za rfl];simp[asAddr,Result.andThen,hld]
 ·have hk':k≠W.heap.size+1:=fun e=>hn ⟨by omega,by have:=HSP.out;rw[HS2.out]at this;omega⟩
  rw[zt hk',zt hk',zt hk',zt hk']
end Go.Proofs.YtkncboinfcnklaaGreatDoor.Lw
namespace Go.Proofs.YtkncboinfcnklaaGreatDoor.Rl
open Go.RowKit Go.Deep Go.Shelf Go.Proofs.YtkncboinfcnklaaGreatDoor.Mth
theorem ie {w:World}{B cb:Nat}{V:Rv}{L:Lg}(hb:w.heap[cb]? = some (Obj.cells (zR V L) 234 (0,0))) (h:w.ownsRow B 304 3 V.wv L.wks.length (yz L.wks V.wl V.rd)) (hls:∀q,q<L.wks.length→w.ownsRow B 3 1 (V.wl q) (L.wks.getD q zo).list.length ((L.wks.getD q zo).list.map iV)) (hw:L.wks.length≤4) (hwl:∀q,q<L.wks.length→(L.wks.getD q zo).list.length≤1000) :
  Calls Tryz.prog 207 #[zr cb] w fun e w'=>e=.returned (.int .i64 (yS L.wks:Int))∧w'=w:=by
 have c15:=(zy (j:=15) (u:=V.wv) hb rfl).1;obtain⟨aw,cw,hwv,hcw,hcm⟩:=zu h;rw[hwv]at c15 h;have HR:=zx h;have HLS:=zx hls;have HWL:=zx hwl
 have HP:Hid (∀k,k<L.wks.length→yS (L.wks.take (k+1))=yS (L.wks.take k)+gk (L.wks.getD k zo)):=fun k hk=>sA hk
 have HE:Hid (yS (L.wks.take L.wks.length)=yS L.wks):=by show _=_;rw[List.take_length]
 have HZ:Hid (yS (L.wks.take 0)=0):=rfl
 have HB:Hid (∀k,k≤L.wks.length→yS (L.wks.take k)≤k*1001):=by
  intro k
  induction k with
  | zero=>intro _;rw[HZ.out];exact Nat.zero_le _
  | succ k ih=>
   intro hk;have:=ih (by omega);rw[HP.out k hk]
   have h1:gk (L.wks.getD k zo)≤1001:=by
    have:=HWL.out k hk;unfold gk
    split <;> omega
   omega
 unfold maxLen at hcm;clear hb h hls hwl hwv;generalize hpw:yS L.wks=pw at *;generalize hpt:(fun k=>yS (L.wks.take k))=pt at *
 have HPT:Hid (∀k,yS (L.wks.take k)=pt k):=fun k=>by rw[←hpt]
 simp only[HPT.out]at HP HE HZ HB;generalize hnw:L.wks.length=nw at *;have HNW:=zx hnw;clear hnw hpw hpt
 go_enter Tryz.func207,Tryz.ntmps207
 go_wp2_with fail
 go_loopw [3,4] (fun n x wr=>∃q:Nat,q≤nw∧x=.int .i64 q∧wr=w∧n=.int .i64 (pt q)) (fun _ x _=>nw-(intOf x).toNat)
 case atStart=>exact⟨0,Nat.zero_le _,rfl,rfl,by rw[HZ.out];rfl⟩
 case round=>
  obtain⟨q,hqn,rfl,hwr,rfl⟩:=hrel;rw[hwr];have HWR:=zx hwr;clear hwr;have hbq:=HB.out q (by omega);by_cases hlt:q<nw
  ·obtain⟨g,rfl⟩:=zf HR.out (by omega);obtain⟨r0,r1,r2⟩:=yp (ks:=L.wks) (wl:=V.wl) (rd:=V.rd) (q:=q) (by rw[HNW.out];exact hlt);have k0:=zg HR.out r0;have k1:=zg HR.out r1;have hl0:=HLS.out q hlt;have hll:=HWL.out q hlt;obtain⟨al,cl,hvl,hcl,hcm2⟩:=zu hl0;rw[hvl]at k0;unfold maxLen at hcm2;have hpq:=HP.out q hlt;unfold gk at hpq;clear r0 r1 r2 hl0 hvl;generalize L.wks.getD q zo=kq at *;generalize hnl:kq.list.length=nl at *;have HPQ:=zx hpq;clear hpq
   cases hr:kq.runs with
   | none=>
    rw[hr]at HPQ k1;simp only[uD]at k1
    have HPQ2:Hid (pt (q+1)=pt q+nl):=by
     show _=_;have:=HPQ.out
     simpa using this
    generalize pt q=pq at *;clear HPQ;go_wp2_with fail
    go_roundw
    case rel=>exact⟨q+1,by omega,by go_num,trivial,by rw[HPQ2.out];go_num⟩
    case measure=>simp[intOf];omega
   | some i=>
    rw[hr]at HPQ k1;simp only[uD]at k1
    have HPQ2:Hid (pt (q+1)=pt q+nl+1):=by
     show _=_;have:=HPQ.out
     simpa [Nat.add_assoc] using this
    have hi0:¬((i:Int)<0):=by omega
    generalize (i:Int)=ii at *;generalize pt q=pq at *;clear HPQ;go_wp2_with fail
    go_roundw
    case rel=>exact⟨q+1,by omega,by go_num,trivial,by rw[HPQ2.out];go_num⟩
    case measure=>simp[intOf];omega
  ·obtain rfl:q=nw:=by omega
   have HEE:=HE.out;generalize pt q=pq at *;subst HEE;go_wp2_with fail;go_ret;exact⟨rfl,HWR.out.symm ▸ rfl⟩
theorem qF:∀ {l:List Tl}{j:Nat},j<l.length→(l.flatMap xg)[j*3]? = some (.int .i64 ((l.getD j yY).num:Int))∧(l.flatMap xg)[j*3+1]? = some (.string (l.getD j yY).word)∧(l.flatMap xg)[j*3+2]? = some (.int .i64 ((l.getD j yY).place:Int))
 | f::l,0,_=>by simp[xg]
 | f::l,j+1,h=>by
  obtain⟨a,b,c⟩:=qF (l:=l) (j:=j) (by simpa using h);rw[List.flatMap_cons];refine⟨?_,?_,?_⟩
  ·rw[List.getElem?_append_right (by simp[xg];omega)];simpa [xg,show(j+1)*3-3=j*3 by omega] using a
  ·rw[List.getElem?_append_right (by simp[xg];omega)];simpa [xg,show(j+1)*3+1-3=j*3+1 by omega] using b
  ·rw[List.getElem?_append_right (by simp[xg];omega)];simpa [xg,show(j+1)*3+2-3=j*3+2 by omega] using c
def vU (n:Nat):List Tl→Nat
 | []=>n
 | t::l=>vU (if t.place<n then t.place else n) l
theorem n9 (t:Tl):∀(l:List Tl) (n:Nat),vU n (l++[t])=if t.place<vU n l then t.place else vU n l
 | [],n=>rfl
 | s::l,n=>by simp only[List.cons_append,vU];exact n9 t l _
theorem l8:∀(l:List Tl) (n:Nat),vU n l≤n
 | [],n=>Nat.le_refl _
 | s::l,n=>by
  have:=l8 l (if s.place<n then s.place else n);simp only[vU]
  split at this <;> split <;> omega
theorem jo:∀(l:List Tl) (n:Nat),∀t∈l,vU n l≤t.place
 | s::l,n,t,h=>by
  simp only[vU]
  rcases List.mem_cons.1 h with rfl|h
  ·have:=l8 l (if t.place<n then t.place else n)
   split at this <;> split <;> omega
  ·exact jo l _ t h
theorem gI:∀(l:List Tl) (n:Nat),vU n l=n∨∃t∈l,vU n l=t.place
 | [],n=>Or.inl rfl
 | s::l,n=>by
  simp only[vU]
  rcases gI l (if s.place<n then s.place else n)with h|⟨t,ht,h⟩
  ·rw[h];split
   ·exact Or.inr ⟨s,by simp,rfl⟩
   ·exact Or.inl rfl
  ·exact Or.inr ⟨t,by simp[ht],h⟩
theorem ib {w:World}{B cb:Nat}{V:Rv}{L:Lg}{all:List Ent}{ts:List Tl}(hb:w.heap[cb]? = some (Obj.cells (zR V L) 234 (0,0))) (ha:w.ownsRow B 66 3 V.av all.length (all.flatMap eC)) (h:w.ownsRow B 341 3 V.tv ts.length (ts.flatMap xg)) :
  Calls Tryz.prog 276 #[zr cb] w fun e w'=>e=.returned (.int .i64 (vU all.length ts:Int))∧w'=w:=by
 have c7:=(zy (j:=7) (u:=V.av) hb rfl).1;have c16:=(zy (j:=16) (u:=V.tv) hb rfl).1;obtain⟨aa,ca,hav,hca,hcam⟩:=zu ha;obtain⟨at_,ct,htv,hct,hctm⟩:=zu h;rw[hav]at c7;rw[htv]at c16 h;have HR:=zx h
 have HS:Hid (∀k,k<ts.length→vU all.length (ts.take (k+1))=if (ts.getD k yY).place<vU all.length (ts.take k) then(ts.getD k yY).place else vU all.length (ts.take k)):=fun k hk=>by
  rw[zG hk yY,n9]
 have HE:Hid (vU all.length (ts.take ts.length)=vU all.length ts):=by show _=_;rw[List.take_length]
 have HZ:Hid (vU all.length (ts.take 0)=all.length):=rfl;unfold maxLen at hcam hctm;clear hb ha h hav htv;generalize hnd:vU all.length ts=nd at *;generalize hpt:(fun k=>vU all.length (ts.take k))=pt at *
 have HPT:Hid (∀k,vU all.length (ts.take k)=pt k):=fun k=>by rw[←hpt]
 simp only[HPT.out]at HS HE HZ;generalize hna:all.length=na at *;generalize hnt:ts.length=nt at *;have HNT:=zx hnt;clear hnd hpt hna hnt HPT
 go_enter Tryz.func276,Tryz.ntmps276
 go_wp2_with fail
 go_loopw [3,4] (fun n x wr=>∃q:Nat,q≤nt∧x=.int .i64 q∧wr=w∧n=.int .i64 (pt q)) (fun _ x _=>nt-(intOf x).toNat)
 case atStart=>exact⟨0,Nat.zero_le _,rfl,rfl,by rw[HZ.out]⟩
 case round=>
  obtain⟨q,hqn,rfl,hwr,rfl⟩:=hrel;rw[hwr];have HWR:=zx hwr;clear hwr;by_cases hlt:q<nt
  ·obtain⟨g,rfl⟩:=zf HR.out (by omega);obtain⟨_,_,r2⟩:=qF (l:=ts) (j:=q) (by rw[HNT.out];exact hlt);have k2:=zg HR.out r2;have hsn:=HS.out q hlt;clear r2;generalize (ts.getD q yY).place=pl at *;by_cases hc:pl<pt q
   ·rw[if_pos hc]at hsn;have HSN:=zx hsn
    have hc2:(pl:Int)<(pt q:Int):=by omega
    clear hsn hc;generalize pt q=pq at *;go_wp2_with fail
    go_roundw
    case rel=>exact⟨q+1,by omega,by go_num,trivial,by rw[HSN.out]⟩
    case measure=>simp[intOf];omega
   ·rw[if_neg hc]at hsn;have HSN:=zx hsn
    have hc2:¬(pl:Int)<(pt q:Int):=by omega
    clear hsn hc;generalize pt q=pq at *;go_wp2_with fail
    go_roundw
    case rel=>exact⟨q+1,by omega,by go_num,trivial,by rw[HSN.out]⟩
    case measure=>simp[intOf];omega
  ·obtain rfl:q=nt:=by omega
   have HEE:=HE.out;generalize pt q=pq at *;subst HEE;go_wp2_with fail;go_ret;exact⟨rfl,HWR.out.symm ▸ rfl⟩
end Go.Proofs.YtkncboinfcnklaaGreatDoor.Rl
namespace Go.Proofs.YtkncboinfcnklaaGreatDoor.Rl
open Go.RowKit
theorem nQ {P:Program}{o:Oper}{a:Act}{w:World}{K:Act→World→Prop}{Q:Exit→Act→World→Prop}(t:TypeId) (x l:Operand) (ho:o.op=.slice t x (some l) none none) (e:TypeId) (ht:P.underlying t=some (.slice e)){i:TypeInfo}(hi:P.info? e=some i)
  (g n c k:Nat) (hx:a.eval x=.slice (some ⟨g,0,none⟩) n c) (hl:a.eval l=.int .i64 (k:Int)) (hk:k≤n)
  (h:∀ad:Addr,(ad=⟨g,k*i.size,none⟩∨c=k)→K (a.put o.dst (.slice (some ad) (n-k) (c-k))) w):Oper.wp P o a w K Q:=by
 have he:P.elem t=e:=by simp[Program.elem,ht]
 have hr:=run_slice_l (P:=P) (w:=w) (a:=some ⟨g,0,none⟩) (len:=n) (cap:=c) (t:=t) (by rw[he];exact ht) .i64 (k:Int) (by omega) (by omega)
 have hsz:(sizeOf (P.elem t)).run P w=.ok i.size w:=by rw[he];simp[sizeOf,typeInfo,hi]
 rw[hsz]at hr;simp only[Result.andThen,Int.toNat_natCast,sliced]at hr;have hr2:=run_sliceAt_slice (P:=P) (w:=w) t (.slice (some ⟨g,0,none⟩) n c) (some (.int .i64 (k:Int))) none none (by rw[he];exact ht);rw[hr]at hr2;unfold Oper.wp execOp;simp only[ho,hx,Option.map_some,Option.map_none,hl,Sem.run_bind];by_cases hc:c=k
 ·rw[if_pos hc]at hr2;rw[hr2];simp only[Result.andThen_ok,Sem.run_pure];exact h _ (Or.inr hc)
 ·rw[if_neg hc]at hr2;rw[hr2];simp only[Result.andThen_ok,Sem.run_pure]
  have ha:(⟨g,0,none⟩:Addr).add (k*i.size)=⟨g,k*i.size,none⟩:=by unfold Addr.add;split <;> simp_all
  rw[Option.map_some,ha];exact h _ (Or.inl rfl)
theorem xO {P:Program}{ops:Array Oper}{rest:List Oper}{o:Oper}{a:Act}{w:World}{Q:Exit→Act→World→Prop}(hgd:o.guard=none) (t:TypeId) (x l:Operand) (ho:o.op=.slice t x (some l) none none) (e:TypeId) (ht:P.underlying t=some (.slice e)){i:TypeInfo}(hi:P.info? e=some i)
  (g n c k:Nat) (hx:a.eval x=.slice (some ⟨g,0,none⟩) n c) (hl:a.eval l=.int .i64 (k:Int)) (hk:k≤n)
  (h:∀ad:Addr,(ad=⟨g,k*i.size,none⟩∨c=k)→wpList P ops Q rest (a.put o.dst (.slice (some ad) (n-k) (c-k))) w):wpList P ops Q (o::rest) a w:=
 wpList_plain hgd fun _ hK=>nQ t x l ho e ht hi g n c k hx hl hk (fun ad had=>hK _ _ (h ad had))
end Go.Proofs.YtkncboinfcnklaaGreatDoor.Rl
namespace Go.Proofs.YtkncboinfcnklaaGreatDoor.Rl
open Go.RowKit Go.Deep Go.Shelf Go.Proofs.YtkncboinfcnklaaGreatDoor.Mth
theorem sP {w:World}{B g n c k sz:Nat}{e:TypeId}{xs:List Value}(h:w.ownsRow B e sz (.slice (some ⟨g,0,none⟩) n c) n xs){ad:Addr}(had:ad=⟨g,k*sz,none⟩∨c=k):∀j u,(xs.drop (k*sz))[j]? = some u→w.cell? (ad.add j)=some u:=fun j u hu=>by
 rcases had with rfl|rfl
 ·rw[List.getElem?_drop]at hu;have:=zg h hu
  have ha:(⟨g,k*sz,none⟩:Addr).add j=⟨g,k*sz+j,none⟩:=by unfold Addr.add;split <;> simp_all
  rw[ha];exact this
 ·have h1:=wn h;have h2:=h.1;rw[List.drop_eq_nil_of_le (by rw[h2];exact Nat.mul_le_mul_right _ h1.1)]at hu;simp at hu
def rV (ks:List Wk) (f a n x:Nat):List Wk:=(xX ks f a).set n ⟨((xX ks f a).getD n zo).list,some x,((xX ks f a).getD n zo).read⟩
theorem pu (ks:List Wk) (f a n x:Nat):(rV ks f a n x).length=ks.length:=by simp[rV,xX]
theorem yZ {ks:List Wk}{q p:Nat}{k:Wk}(h:q<ks.length):(ks.set q k).getD p zo=if p=q then k else ks.getD p zo:=by
 by_cases e:p=q
 ·subst e;rw[if_pos rfl,List.getD_eq_getElem?_getD,List.getElem?_set_self h];rfl
 ·rw[if_neg e,List.getD_eq_getElem?_getD,List.getElem?_set_ne (fun q=>e q.symm),←List.getD_eq_getElem?_getD]
theorem lx {ks:List Wk}{f a p:Nat}(hf:f<ks.length):(xX ks f a).getD p zo=if p=f then⟨(ks.getD f zo).list.eraseIdx a,(ks.getD f zo).runs,(ks.getD f zo).read⟩ else ks.getD p zo:=yZ hf
theorem oP {ks:List Wk}{f a n x p:Nat}(hf:f<ks.length) (hn:n<ks.length):((rV ks f a n x).getD p zo).runs=if p=n then some x else(ks.getD p zo).runs:=by
 unfold rV;rw[yZ (by rw[ye];exact hn)];by_cases e:p=n
 ·rw[if_pos e,if_pos e]
 ·rw[if_neg e,if_neg e,lx hf];by_cases e2:p=f
  ·rw[if_pos e2,e2]
  ·rw[if_neg e2]
theorem fU {ks:List Wk}{f a n x p:Nat}(hf:f<ks.length) (hn:n<ks.length):((rV ks f a n x).getD p zo).read=(ks.getD p zo).read:=by
 have h2:∀p,((xX ks f a).getD p zo).read=(ks.getD p zo).read:=fun p=>by
  rw[lx hf];by_cases e2:p=f
  ·rw[if_pos e2,e2]
  ·rw[if_neg e2]
 unfold rV;rw[yZ (by rw[ye];exact hn)];by_cases e:p=n
 ·rw[if_pos e,h2,e]
 ·rw[if_neg e,h2]
theorem fQ {ks:List Wk}{f a n x p:Nat}(hf:f<ks.length) (hn:n<ks.length):((rV ks f a n x).getD p zo).list=if p=f then(ks.getD f zo).list.eraseIdx a else(ks.getD p zo).list:=by
 have h2:∀p,((xX ks f a).getD p zo).list=if p=f then(ks.getD f zo).list.eraseIdx a else(ks.getD p zo).list:=fun p=>by
  rw[lx hf];by_cases e2:p=f
  ·rw[if_pos e2,if_pos e2]
  ·rw[if_neg e2,if_neg e2]
 unfold rV;rw[yZ (by rw[ye];exact hn)];by_cases e:p=n
 ·rw[if_pos e,h2,e]
 ·rw[if_neg e,h2]
theorem uU {ks:List Wk}{wl:Nat→Value}{rd:Nat→Int}{xs:List Value}(hl:xs.length=ks.length*3) (h:∀q,q<ks.length→xs[q*3]? = some (wl q)∧xs[q*3+1]? = some (.int .i64 (uD (ks.getD q zo).runs))∧xs[q*3+2]? = some (.int .i64 (rd q))):xs=yz ks wl rd:=by
 apply List.ext_getElem?;intro j;by_cases hj:j<ks.length*3
 ·have hp:j / 3<ks.length:=by omega
  obtain⟨a0,a1,a2⟩:=h (j / 3) hp;obtain⟨b0,b1,b2⟩:=yp (ks:=ks) (wl:=wl) (rd:=rd) hp
  rcases(show j=j / 3*3∨j=j / 3*3+1∨j=j / 3*3+2 by omega)with e|e|e
  ·rw[e,a0,b0]
  ·rw[e,a1,b1]
  ·rw[e,a2,b2]
 ·rw[List.getElem?_eq_none (by omega),List.getElem?_eq_none (by rw[xW];omega)]
theorem jI {ks:List Wk}{wl:Nat→Value}{rd:Nat→Int}{f a n x:Nat}{v:Value}(hf:f<ks.length) (hn:n<ks.length) :
  (((yz ks wl rd).set (n*3+1) (.int .i64 (x:Int))).set (n*3+2) (.int .i64 0)).set (f*3) v=yz (rV ks f a n x) (fun p=>if p=f then v else wl p) (fun p=>if p=n then 0 else rd p):=by
 have hl:(yz ks wl rd).length=ks.length*3:=xW _ _ _;refine uU (by rw[List.length_set,List.length_set,List.length_set,hl,pu]) (fun q hq=>?_);rw[pu]at hq;obtain⟨b0,b1,b2⟩:=yp (ks:=ks) (wl:=wl) (rd:=rd) hq;refine⟨?_,?_,?_⟩
 ·by_cases e:q=f
  ·subst e;rw[if_pos rfl,List.getElem?_set_self (by rw[List.length_set,List.length_set,hl];omega)]
  ·rw[if_neg e,List.getElem?_set_ne (by omega),List.getElem?_set_ne (by omega),List.getElem?_set_ne (by omega),b0]
 ·rw[oP hf hn,List.getElem?_set_ne (by omega),List.getElem?_set_ne (by omega)];by_cases e:q=n
  ·subst e;rw[if_pos rfl,List.getElem?_set_self (by rw[hl];omega)];rfl
  ·rw[if_neg e,List.getElem?_set_ne (by omega),b1]
 ·rw[List.getElem?_set_ne (by omega)];by_cases e:q=n
  ·subst e;rw[if_pos rfl,List.getElem?_set_self (by rw[List.length_set,hl];omega)]
  ·rw[if_neg e,List.getElem?_set_ne (by omega),List.getElem?_set_ne (by omega),b2]
theorem nT {ks:List Wk}:∀k,(ks.getD (xL ks k) zo).list.length=0→∀p,p<k→(ks.getD p zo).list.length=0
 | 0,_,p,hp=>absurd hp (Nat.not_lt_zero _)
 | k+1,h,p,hp=>by
  rw[xL]at h;split at h
  ·omega
  ·by_cases e:p=k
   ·subst e;omega
   ·exact nT k h p (by omega)
end Go.Proofs.YtkncboinfcnklaaGreatDoor.Rl
