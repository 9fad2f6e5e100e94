import Derived.Test.YtkncboinfcnklaaGreatDoorQ38
import Derived.Test.YtkncboinfcnklaaGreatDoorQ32
import Derived.Test.YtkncboinfcnklaaGreatDoorQ37
set_option maxRecDepth 100000
set_option maxHeartbeats 8000000
namespace Go.Proofs.YtkncboinfcnklaaGreatDoor
open Go.RowKit Go.Deep Go.Proofs.YtkncboinfcnklaaGreatDoor.Mth
theorem rF (R:Nat→World→Prop) (w:World) (B0 wb B rb n c N:Nat) (vs:Nat→Value) (tv:Value) (xs:List Value) (hn:n≤100) (hnc:n≤c) (hcm:c≤1000) (hwb:wb<B0) (htv:∀g,some g=tv.ownBlock→g<B0) (hBB:B≤B0) (hN:N≤4194304) (h0:R 0 w)
  (hst:∀k W,k<n→R k W→W.cell? ⟨rb,k,none⟩=some (vs k)∧(∃a m d,vs k=.slice a m d)∧Calls Tryz.prog 212 #[.pointer (some ⟨wb,9,none⟩),vs k] W fun e W'=>e=.returned (.tuple #[])∧R (k+1) W')
  (h6:∀W,R n W→(∃C,W.heap[wb]? = some (Obj.cells C 91 (0,0))∧C.size=15∧C[14]? = some tv)∧W.ownsRow B 175 5 tv N xs∧B0≤W.heap.size∧∃ys,W.ownsRow B0 75 1 (.slice (some ⟨rb,0,none⟩) n c) n ys) :
  Calls Tryz.prog 136 #[.pointer (some ⟨wb,9,none⟩), .slice (some ⟨rb,0,none⟩) n c] w fun e w'=>e=.returned (.tuple #[])∧∃W C tv' va vb vc,R n W∧W.heap[wb]? = some (Obj.cells C 91 (0,0))∧Kept W w' B0 wb 14 B 175 75 1 (fR W.heap.size N) tv tv' N xs C ⟨.slice (some ⟨rb,0,none⟩) n c,va,vb,vc⟩ n∧KN W.heap.size (.slice (some ⟨rb,0,none⟩) n c) va vb vc∧NB W.heap.size tv tv'∧∀g,g<W.heap.size→g≠rb→g≠wb→some g≠tv.ownBlock→w'.heap[g]? = W.heap[g]? := by
 obtain⟨i0,hi0,hz0,hz1,hz2⟩:=info_parts Tryz.infoShs;obtain⟨j0,hj0,hy0,hy1,hy2⟩:=info_parts Tryz.info175;obtain⟨m0,hm0,hn0,hn1,hn2⟩:=info_parts Tryz.info142;have HST:=zx hst;have H6:=zx h6;have H0:=zx h0;have HTV:=zx htv;clear hst h6 h0 htv
 go_enter Tryz.func136,Tryz.ntmps136
 go_wp2_with fail
 go_loopw [4] (fun i wr=>∃k:Nat,k≤n∧i=.int .i64 k∧R k wr) (fun i _=>n-(intOf i).toNat)
 case atStart=>exact⟨0,Nat.zero_le _,rfl,H0.out⟩
 case round=>
  obtain⟨k,hk,rfl,hR⟩:=hrel;have HR:=zx hR;clear hR;by_cases hlt:k<n
  ·obtain⟨hc,⟨va,vm,vd,hv⟩,hcall⟩:=HST.out k wr hlt HR.out;rw[hv]at hc hcall;have CS:=zx hcall;clear hv hcall
   go_wp2_with (first
    | (go_at_call 212;refine CS.out.mono ?_;rintro e W' ⟨rfl,hR'⟩;have HR':=zx hR';clear hR'))
   go_roundw
   case rel=>exact⟨k+1,by omega,by go_num,HR'.out⟩
   case measure=>simp[intOf];omega
  ·obtain rfl:n=k:=by omega
   obtain⟨⟨C,hC,hCs,hct⟩,hrow,hB0,ys,hown⟩:=H6.out wr HR.out;obtain⟨ta,tc,rfl,hNc,hNm⟩:=zu hrow;unfold maxLen at hNm;have hyl:=hown.1;have c14:=(zy hC hct).1;have hmk:=run_makeSlice (P:=Tryz.prog) wr 75 142 m0 _ Tryz.underlying75 hm0 hn0 .i64 .i64 ((N:Int)+1) ((N:Int)+1) (by omega) (by omega) (by rw[hn1];omega) (by rw[hn2];omega) (by omega)
   have htn:((N:Int)+1).toNat=N+1:=by omega
   rw[htn]at hmk;generalize madeCells (Value.agg #[.int .i64 0, .int .i64 0, .int .i64 0]).cells ((N+1)*m0.size)=mk at *;obtain⟨w1,hw1⟩:∃w1,w1=wr.alloc (.cells mk 142):=⟨_,rfl⟩;rw[←hw1]at hmk
   have hb1:Below wr.heap.size wr w1:=by rw[hw1];exact(Below.refl wr.heap.size wr).alloc (Nat.le_refl _) _
   have HB1:=zx hb1
   have hmlt:wr.heap.size<w1.heap.size:=by rw[hw1];simp
   have HOWN:=zx hown;have HOWN1:=zx (HOWN.out.kept (row:=none) ⟨HB1.out.os,HB1.out.tape,HB1.out.output,HB1.out.size,fun k hk _=>HB1.out.block k hk⟩ (by simp[Value.ownBlock]));have hrbl:=(zw hown (g:=rb) rfl).2.1;have hrbB:=(zw hown (g:=rb) rfl).1;have HC:=zx hC;have HCT:=zx hct;have HCS:=zx hCs;have HROW:=zx hrow;clear hC hrow hct hw1 hb1 htn hm0 hn0 hn1 hn2 hown HST H6 H0;go_wp2_with fail;obtain⟨w0,rfl⟩:∃w0,w0=wr:=⟨_,rfl⟩
   go_loopw [7] (fun i wr=>∃k:Nat,k≤n∧i=.int .i64 k∧wr.ownsRow B0 75 1 (.slice (some ⟨rb,0,none⟩) n c) n (sT (fR w0.heap.size N) ys k)∧w1.grownBy wr (some rb)) (fun i _=>n-(intOf i).toNat)
   case atStart=>exact⟨0,Nat.zero_le _,rfl,by simpa [sT,rU] using HOWN1.out,⟨rfl,rfl,rfl,Nat.le_refl _,fun _ _ _=>rfl⟩⟩
   case round=>
    obtain⟨k,hk,rfl,ho,hg⟩:=hrel;have HO:=zx ho;have HG:=zx hg;clear ho hg;by_cases hlt:k<n
    ·obtain⟨⟨y0,hcell0⟩,hfr0⟩:=wg HO.out (i:=k) (by omega);go_wp2
     go_roundw
     case rel=>
      refine⟨k+1,by omega,by go_num,?_,⟨HG.out.os,HG.out.tape,HG.out.output,by have:=HG.out.size;simpa using this,fun q hq hne=>?_⟩⟩
      ·have t0:=zF (y:=fR w0.heap.size N k) HO.out (i:=k) (by omega);rw[xD (f:=fR w0.heap.size N) (by rw[hyl];omega)]at t0;exact t0
      ·rw[zt (fun e=>hne (by rw[e]))];exact HG.out.block q hq hne
     case measure=>simp[intOf];omega
    ·obtain rfl:n=k:=by omega
     have HO2:Hid (wr.ownsRow B0 75 1 (.slice (some ⟨rb,0,none⟩) n c) n (rU (fR w0.heap.size N) (n*1))):=by
      have:=HO.out;rw[tk (by rw[hyl];omega)]at this;rw[Nat.mul_one];exact this
     have HSAME:Hid (∀g:Nat,g<B0→wr.heap[g]? = w0.heap[g]?):=by
      intro g hg;have hs1:=HB1.out.size;rw[HG.out.block g (by omega) (fun q=>by injection q with q;omega)];exact HB1.out.block g (by omega)
     have hsz:w0.heap.size≤wr.heap.size:=Nat.le_trans HB1.out.size HG.out.size
     have K0:Hid (KSt w0 (wr.alloc (Obj.cells #[.slice (some ⟨rb,0,none⟩) n c, .slice none 0 0, .slice none 0 0, .slice none 0 0, .int .i64 (N:Int)] 175)) B0 wr.heap.size 175 75 1 (.slice (some ⟨rb,0,none⟩) n c) n (fR w0.heap.size N) #[.slice (some ⟨rb,0,none⟩) n c, .slice none 0 0, .slice none 0 0, .slice none 0 0, .int .i64 (N:Int)] []):=by
      refine⟨HO2.out.alloc _,?_,by omega,fun g hg=>?_,HG.out.os.trans HB1.out.os,HG.out.tape.trans HB1.out.tape,HG.out.output.trans HB1.out.output,by simp;omega,fun p hp=>by cases hp⟩
      ·show(wr.heap.push _)[wr.heap.size]? = _;rw[Array.getElem?_push,if_pos rfl]
      ·rw[Mth.uC wr _ (r:=g) (by omega)];exact HSAME.out g hg
     have A0:Hid (SA w0 (wr.alloc (Obj.cells #[.slice (some ⟨rb,0,none⟩) n c, .slice none 0 0, .slice none 0 0, .slice none 0 0, .int .i64 (N:Int)] 175)) (.slice (some ⟨rb,0,none⟩) n c)):=by
      intro g hg hn;rw[Mth.uC wr _ (r:=g) (by omega),HG.out.block g (Nat.lt_of_lt_of_le hg HB1.out.size) hn];exact HB1.out.block g hg
     have HXB:Hid (w0.heap.size≤wr.heap.size):=hsz;clear HO HG HOWN1 HB1
     go_wp2_with (first
      | (at_builtin;refine zY _ rfl (.tmp 42) (.tmp 44) 73 rfl B0 75 i0 (.slice none 0 0) 1 24 Tryz.underlying73 hi0 hz0 hz1 hz2 rfl (by decide) _ _ _ rfl (K0.out.own.alloc _) ⟨_,0,none⟩ 1 1 [.slice (some ⟨w0.heap.size,0,none⟩) (N+1) (N+1)] rfl rfl (zB _ _ (by simp) _ _ _ rfl) (by intro u hu;simp at hu;subst hu;rfl) (by unfold maxLen;omega) (by omega) (by have:=K0.out.size;simp at this ⊢;omega) (by omega) ?_;intro v1 W1 o1 g1 k1 r1 s1;have HN91:=zx (vz (s:=w0.heap.size) s1 (by have:=K0.out.size;simp at this ⊢;omega));clear s1;obtain⟨a1,c1,rfl,_,_⟩:=zu o1;have A1:=zx (SA.app (i:=1) (v2:=.slice a1 (n+1) c1) A0.out K0.out.size HXB.out g1);have K1:=zx (KSt.app (i:=1) (m:=1) K0.out (by decide) (by exact o1) g1 k1 r1 (by simp));obtain⟨hx1,hf1⟩:=zy (j:=1) (u:=.slice none 0 0) (KSt.x2 K0.out (by decide) g1) rfl;clear o1 g1 k1 r1)
      | (at_builtin;refine zY _ rfl (.tmp 47) (.tmp 50) 73 rfl B0 75 i0 (.slice none 0 0) 1 24 Tryz.underlying73 hi0 hz0 hz1 hz2 rfl (by decide) _ _ _ rfl (K1.out.own.alloc _) ⟨_,0,none⟩ 2 2 [.slice (some ⟨w0.heap.size,0,none⟩) (N+1) (N+1), .slice (some ⟨w0.heap.size,0,none⟩) (N+1) (N+1)] rfl rfl (zB _ _ (by simp) _ _ _ rfl) (by intro u hu;simp at hu;subst hu;rfl) (by unfold maxLen;omega) (by omega) (by have:=K1.out.size;simp at this ⊢;omega) (by omega) ?_;intro v2 W2 o2 g2 k2 r2 s2;have HN92:=zx (vz (s:=w0.heap.size) s2 (by have:=K1.out.size;simp at this ⊢;omega));clear s2;obtain⟨a2,c2,rfl,_,_⟩:=zu o2;have A2:=zx (SA.app (i:=2) (v2:=.slice a2 (n+2) c2) A1.out K1.out.size HXB.out g2);have K2:=zx (KSt.app (i:=2) (m:=2) K1.out (by decide) (by exact o2) g2 k2 r2 (by simp));obtain⟨hx2,hf2⟩:=zy (j:=2) (u:=.slice none 0 0) (KSt.x2 K1.out (by decide) g2) rfl;clear o2 g2 k2 r2)
      | (at_builtin;refine zY _ rfl (.tmp 53) (.tmp 57) 73 rfl B0 75 i0 (.slice none 0 0) 1 24 Tryz.underlying73 hi0 hz0 hz1 hz2 rfl (by decide) _ _ _ rfl (K2.out.own.alloc _) ⟨_,0,none⟩ 3 3 [.slice (some ⟨w0.heap.size,0,none⟩) (N+1) (N+1), .slice (some ⟨w0.heap.size,0,none⟩) (N+1) (N+1), .slice (some ⟨w0.heap.size,0,none⟩) (N+1) (N+1)] rfl rfl (zB _ _ (by simp) _ _ _ rfl) (by intro u hu;simp at hu;subst hu;rfl) (by unfold maxLen;omega) (by omega) (by have:=K2.out.size;simp at this ⊢;omega) (by omega) ?_;intro v3 W3 o3 g3 k3 r3 s3;have HN93:=zx (vz (s:=w0.heap.size) s3 (by have:=K2.out.size;simp at this ⊢;omega));clear s3;obtain⟨a3,c3,rfl,_,_⟩:=zu o3;have A3:=zx (SA.app (i:=3) (v2:=.slice a3 (n+3) c3) A2.out K2.out.size HXB.out g3);have K3:=zx (KSt.app (i:=3) (m:=3) K2.out (by decide) (by exact o3) g3 k3 r3 (by simp));obtain⟨hx3,hf3⟩:=zy (j:=3) (u:=.slice none 0 0) (KSt.x2 K2.out (by decide) g3) rfl;clear o3 g3 k3 r3))
     clear hx1 hf1 hx2 hf2 hx3 hf3 K0 K1 K2 HO2;have HXX:=zx K3.out.x;have hge:=K3.out.ge;have hWsz:=K3.out.size;obtain⟨e0,_⟩:=zy (j:=0) (u:=.slice (some ⟨rb,0,none⟩) n c) K3.out.x rfl;obtain⟨e1,_⟩:=zy (j:=1) (u:=.slice a1 (n+1) c1) K3.out.x rfl;obtain⟨e2,_⟩:=zy (j:=2) (u:=.slice a2 (n+2) c2) K3.out.x rfl;obtain⟨e3,_⟩:=zy (j:=3) (u:=.slice a3 (n+3) c3) K3.out.x rfl;obtain⟨e4,_⟩:=zy (j:=4) (u:=.int .i64 (N:Int)) K3.out.x rfl;have HWB:=zx ((K3.out.same wb hwb).trans HC.out);obtain⟨ew,ef⟩:=zy (j:=14) (u:=.slice ta N tc) HWB.out HCT.out;have HRW:=zx (zn HROW.out (fun g hg=>K3.out.same g (HTV.out g hg)))
     have hnx:Hid (some wr.heap.size≠(Value.slice ta N tc).ownBlock):=fun q=>by have:=HTV.out _ q;omega
     have hnw:Hid (some wb≠(Value.slice ta N tc).ownBlock):=fun q=>by
      obtain⟨_,_,D,hD⟩:=zw HROW.out q;rw[HC.out]at hD
      injection hD with hD
      injection hD with _ hD _
      exact absurd hD (by decide)
     generalize W3.setCell ⟨wr.heap.size,3,none⟩ (.slice a3 (n+3) c3)=W at *;generalize wr.heap.size=xb at *;have ew2:(W.alloc (Obj.cells #[.slice (some ⟨rb,0,none⟩) n c, .slice a1 (n+1) c1, .slice a2 (n+2) c2, .slice a3 (n+3) c3, .int .i64 (N:Int)] 175)).cell? ⟨wb,14,none⟩=some (.slice ta N tc):=((zi W _).cell (p:=⟨wb,14,none⟩) (World.block_lt_of_cell? _ _ ew)).trans ew
     go_region_law (refine zQ _ rfl _ _ 87 rfl B 175 j0 (.agg #[.slice none 0 0, .slice none 0 0, .slice none 0 0, .slice none 0 0, .int .i64 0]) 5 104 Tryz.underlying87 hj0 hy0 hy1 hy2 rfl (by decide) _ _ _ rfl (by exact HRW.out.alloc _) ⟨W.heap.size,0,none⟩ 1 1 [.slice (some ⟨rb,0,none⟩) n c, .slice a1 (n+1) c1, .slice a2 (n+2) c2, .slice a3 (n+3) c3, .int .i64 (N:Int)] rfl rfl (by exact zM _ _ _ _ rfl) (by intro u hu;simp at hu;rcases hu with rfl|rfl|rfl|rfl|rfl <;> rfl) (by unfold maxLen;omega) (by omega) (by simp;omega) ?_;intro tv5 W5 o5 g5 n5;have HNB5:=zx (oU (B0:=w0.heap.size) n5 (by simp;omega));clear n5;obtain⟨a5,c5,rfl,_,_⟩:=zu o5;have g6:(W.alloc (Obj.cells #[.slice (some ⟨rb,0,none⟩) n c, .slice a1 (n+1) c1, .slice a2 (n+2) c2, .slice a3 (n+3) c3, .int .i64 (N:Int)] 175)).grownBy W5 (Value.slice ta N tc).ownBlock:=⟨g5.os,g5.tape,g5.output,g5.size,g5.block⟩;have AF:=zx (SA.fin (off:=14) (wb:=wb) (tv':=.slice a5 (N+1) c5) A3.out hWsz g6);have KF:=zx (sk (off:=14) K3.out (by decide) (by decide) (by decide) hwb HC.out HRW.out o5 g6 hB0);obtain⟨f0,_⟩:=zy (j:=0) (u:=.slice (some ⟨rb,0,none⟩) n c) (zN g6 HXX.out hnx.out) rfl;obtain⟨f1,_⟩:=zy (j:=1) (u:=.slice a1 (n+1) c1) (zN g6 HXX.out hnx.out) rfl;obtain⟨f2,_⟩:=zy (j:=2) (u:=.slice a2 (n+2) c2) (zN g6 HXX.out hnx.out) rfl;obtain⟨f3,_⟩:=zy (j:=3) (u:=.slice a3 (n+3) c3) (zN g6 HXX.out hnx.out) rfl;obtain⟨f4,_⟩:=zy (j:=4) (u:=.int .i64 (N:Int)) (zN g6 HXX.out hnx.out) rfl;obtain⟨fw,ff⟩:=zy (j:=14) (u:=.slice ta N tc) (zN g6 HWB.out hnw.out) HCT.out;clear o5 g5 g6)
     all_goals (go_wp2;go_end0;exact⟨rfl,w0,C,_,_,_,_,HR.out,HC.out,KF.out,(fun g hg=>by rcases hg with hg|hg|hg|hg;exact Or.inl hg;exact HN91.out g hg;exact HN92.out g hg;exact HN93.out g hg),HNB5.out,fun g h1 h2 h3 h4=>AF.out g h1 (fun e=>h2 (by injection e)) h3 h4⟩)
end Go.Proofs.YtkncboinfcnklaaGreatDoor
namespace Go.Proofs.YtkncboinfcnklaaGreatDoor.Lw
open Go.RowKit Go.Deep Go.Shelf Go.Proofs.YtkncboinfcnklaaGreatDoor.Mth Go.Proofs.YtkncboinfcnklaaGreatDoor.Rl
theorem iN {P:Lg→List Tl→Prop}{Z:Nat→Prop}{w:World}{B wb B0:Nat}{g0 g1 g2 g3 hv ke ks kr:Value}{Ne Ns Nr M:Nat}{hs:List Ho}(h:HI P Z w B wb g0 g1 g2 g3 hv ke ks kr Ne Ns Nr M hs none){v:Value}{n:Nat}{ys:List Value}(hown:w.ownsRow B0 142 3 v n ys) (hn:n≤1100000) (hM:M≤400000) (hNs:Ns+1≤8*M) (hB0:B0≤w.heap.size) (hBB:B≤B0) (hwb:wb<B0) (hvM:∀g,some g=v.ownBlock→¬Mu wb hv ke ks kr (hs.map Ho.hb) g)
  (hX:∀g,some g=v.ownBlock→¬Z g∧∀j,j<hs.length→(hs.getD j h0).ρ g=0) :
  Calls Tryz.prog 212 #[.pointer (some ⟨wb,9,none⟩),v] w fun e w'=>e=.returned (.tuple #[])∧∃Z' ks',(∀g,Z g→Z' g)∧HI P Z' w' B wb g0 g1 g2 g3 hv ke ks' kr Ne (Ns+1) Nr M hs none∧Below B w w'∧(∀g,g<w.heap.size→some g≠v.ownBlock→¬Mu wb hv ke ks kr (hs.map Ho.hb) g→w'.heap[g]? = w.heap[g]?)∧(∀g,Mu wb hv ke ks' kr (hs.map Ho.hb) g→Mu wb hv ke ks kr (hs.map Ho.hb) g∨w.heap.size≤g)∧(∀g,some g=kr.ownBlock→w'.heap[g]? = w.heap[g]?)∧(∀g,Z' g→Z g∨some g=v.ownBlock∨w.heap.size≤g):=by
 have hmb:=h.mb;obtain⟨q,hbe,hbq⟩:=h.bs;have mW:Mu wb hv ke ks kr (hs.map Ho.hb) wb:=Or.inl rfl
 have mE:∀g,some g=ks.ownBlock→Mu wb hv ke ks kr (hs.map Ho.hb) g:=fun g q=>Or.inr (Or.inr (Or.inr (Or.inl q)))
 refine(rG w B0 wb B v ks n Ns ys _ (dP g0 g1 g2 g3 hv ke ks kr) hown hwb hB0 h.blk rfl rfl hbe hBB (by omega) (by omega)).mono ?_;rintro e w' ⟨rfl,ks',va,vb,vc,hk,hkn,hnb,hfr⟩
 have hvN:∀g,some g=v.ownBlock→¬wM w g:=fun g hg=>by
  obtain⟨_,_,D,hD⟩:=zw hown hg;rintro ⟨C',fr,h3⟩;exact absurd (zc hD h3) (by decide)
 have hsz:=hk.size
 have hks:∀ {T:TypeId}{sz N:Nat}{u:Value}{xs:List Value},w.ownsRow B T sz u N xs→T≠91→T≠172→T≠142→∀g,some g=u.ownBlock→w'.heap[g]? = w.heap[g]? := fun {T sz N u xs} ho t1 t2 t3 g hg=>by
  obtain⟨_,hl,D,hD⟩:=zw ho hg;exact hfr g hl (tR ho hown t3 hg) (fun e=>by subst e;exact t1 (zc hD h.blk)) (tR ho hbe t2 hg)
 have hz:∀g,Z g→w'.heap[g]? = w.heap[g]? := fun g hg=>hfr g (h.zm g hg).1 (fun e=>(hX g e).1 hg) (fun e=>(h.zm g hg).2.1 (by rw[e];exact mW)) (fun e=>(h.zm g hg).2.1 (mE g e))
 have hq4:∀g,(some g=v.ownBlock∨some g=va.ownBlock∨some g=vb.ownBlock∨some g=vc.ownBlock)→g<w'.heap.size∧some g≠ks'.ownBlock:=fun g hg=>by
  by_cases hv0:some g=v.ownBlock
  ·have hl:=(zw hown hv0).2.1;refine⟨by omega,fun e=>?_⟩
   rcases hnb g e with e|e
   ·exact hvM g hv0 (mE g e)
   ·omega
  have hty:(∃C,w'.heap[g]? = some (Obj.cells C 142 (0,0))):=by
   rcases hg with hg|hg|hg|hg
   ·exact absurd hg hv0
   ·exact yQ hk.ra hg (by omega)
   ·exact yQ hk.rb hg (by omega)
   ·exact yQ hk.rc hg (by omega)
  obtain⟨C,hC⟩:=hty;refine⟨(Mth.gI hC),fun e=>?_⟩;obtain⟨_,_,D,hD⟩:=zw hk.row e;exact absurd (zc hC hD) (by decide)
 have key:=h.books (w':=w') (ke':=ke) (ks':=ks') (kr':=kr) (Ne':=Ne) (Ns':=Ns+1) (Nr':=Nr) (M':=M) (X:=fun g=>some g=v.ownBlock) (Y:=fun g=>some g=v.ownBlock∨some g=va.ownBlock∨some g=vb.ownBlock∨some g=vc.ownBlock) hsz (fun g h1 h2 h3 _ h4 _=>hfr g h1 h2 h3 h4) (fun g hg=>⟨(hX g hg).1,hvM g hg,(hX g hg).2,hvN g hg⟩) hk.wblk
  (by obtain⟨q2,h1,h2⟩:=h.be;exact Bok.same ⟨q2,h1,h2⟩ (hks h1 (by decide) (by decide) (by decide)) hz (fun _ q=>Or.inl q))
  (Bok.more hbq hz (fun _ q=>Or.inl q) hk.row (fun _ _=>rfl) (n:=n) (by omega) hk.rl hk.ra hk.rb hk.rc (fun g hg=>Or.inr hg))
  (by obtain⟨F,hF,q2,h1,h2⟩:=h.br;exact⟨F,hF,Bok.same ⟨q2,h1,h2⟩ (hks h1 (by decide) (by decide) (by decide)) hz (fun _ q=>Or.inl q)⟩)
  (fun g hg=>by
   rcases hg with hg|hg|hg
   ·exact Or.inl (Or.inl hg)
   ·rcases hnb g hg with e|e
    ·exact Or.inl (Or.inr (Or.inl e))
    ·exact Or.inr e
   ·exact Or.inl (Or.inr (Or.inr hg)))
  (fun g hg=>⟨(hq4 g hg).1,hkn g hg,fun e=>?_,(hq4 g hg).2,fun e=>?_⟩) (by omega) (by omega)
 ·refine⟨rfl,_,ks',fun g hg=>Or.inl hg,key,⟨hk.os,hk.tape,hk.output,hsz,fun g hg=>hk.same g (by omega) (fun e=>by have:=h.ge;omega) (fun e=>by have:=(zw hbe e).1;omega)⟩,fun g h1 h2 h3=>hfr g h1 h2 (fun e=>h3 (by rw[e];exact mW)) (fun e=>h3 (mE g e)),fun g hg=>?_,?_,fun g hg=>hg.imp id (hkn g)⟩
  rcases hg with q|q|q|q|q
  ·exact Or.inl (Or.inl q)
  ·exact Or.inl (Or.inr (Or.inl q))
  ·exact Or.inl (Or.inr (Or.inr (Or.inl q)))
  ·rcases hnb g q with e|e
   ·exact Or.inl (mE g e)
   ·exact Or.inr e
  ·exact Or.inl (Or.inr (Or.inr (Or.inr (Or.inr q))))
  ·obtain⟨F,_,q2,h1,_⟩:=h.br;exact hks h1 (by decide) (by decide) (by decide)
 ·obtain⟨q2,h1,_⟩:=h.be
  rcases hkn g hg with e2|e2
  ·exact hvM g e2 (Or.inr (Or.inr (Or.inl e)))
  ·have:=(zw h1 e).2.1;omega
 ·obtain⟨F,_,q2,h1,_⟩:=h.br
  rcases hkn g hg with e2|e2
  ·exact hvM g e2 (Or.inr (Or.inr (Or.inr (Or.inr (Or.inl e)))))
  ·have:=(zw h1 e).2.1;omega
theorem lF {P:Lg→List Tl→Prop}{Z:Nat→Prop}{w:World}{B wb B0:Nat}{g0 g1 g2 g3 hv ke ks kr:Value}{Ne Ns Nr M:Nat}{hs:List Ho}(h:HI P Z w B wb g0 g1 g2 g3 hv ke ks kr Ne Ns Nr M hs none){v:Value}{n:Nat}{ys:List Value}(hown:w.ownsRow B0 66 3 v n ys) (hn:n≤1100000) (hM:M≤400000) (hB0:B0≤w.heap.size) (hBB:B≤B0) (hmu:∀g,Mu wb hv ke ks kr (hs.map Ho.hb) g→g<B0)
  (hX:∀g,some g=v.ownBlock→¬Z g∧∀j,j<hs.length→(hs.getD j h0).ρ g=0) :
  Calls Tryz.prog 121 #[.pointer (some ⟨wb,9,none⟩),v] w fun e w'=>e=.returned (.tuple #[])∧∃Z' ke',(∀g,Z g→Z' g)∧HI P Z' w' B wb g0 g1 g2 g3 hv ke' ks kr (Ne+1) Ns Nr (M+1) hs none∧Below B w w'∧(∀g,g<w.heap.size→some g≠v.ownBlock→¬Mu wb hv ke ks kr (hs.map Ho.hb) g→w'.heap[g]? = w.heap[g]?)∧(∀g,Mu wb hv ke' ks kr (hs.map Ho.hb) g→Mu wb hv ke ks kr (hs.map Ho.hb) g∨w.heap.size≤g)∧(∀g,Z' g→Z g∨some g=v.ownBlock∨w.heap.size≤g):=by
 have hmb:=h.mb;obtain⟨q,hbe,hbq⟩:=h.be;have mW:Mu wb hv ke ks kr (hs.map Ho.hb) wb:=Or.inl rfl
 have mE:∀g,some g=ke.ownBlock→Mu wb hv ke ks kr (hs.map Ho.hb) g:=fun g q=>Or.inr (Or.inr (Or.inl q))
 refine(vW w B0 wb B v ke n Ne ys _ (dP g0 g1 g2 g3 hv ke ks kr) hown (hmu wb mW) hB0 h.blk rfl rfl hbe (fun g hg=>hmu g (mE g hg)) hBB (by omega) (by omega)).mono ?_;rintro e w' ⟨rfl,ke',va,vb,vc,hk,hkn,hnb,hfr⟩
 have hvM:∀g,some g=v.ownBlock→¬Mu wb hv ke ks kr (hs.map Ho.hb) g:=fun g hg hm=>by
  have h1:=hmu g hm;have h2:=(zw hown hg).1;omega
 have hvN:∀g,some g=v.ownBlock→¬wM w g:=fun g hg=>by
  obtain⟨_,_,D,hD⟩:=zw hown hg;rintro ⟨C',fr,h3⟩;exact absurd (zc hD h3) (by decide)
 have hsz:=hk.size
 have hks:∀ {T:TypeId}{sz N:Nat}{u:Value}{xs:List Value},w.ownsRow B T sz u N xs→T≠91→T≠169→T≠66→∀g,some g=u.ownBlock→w'.heap[g]? = w.heap[g]? := fun {T sz N u xs} ho t1 t2 t3 g hg=>by
  obtain⟨_,hl,D,hD⟩:=zw ho hg;exact hfr g hl (tR ho hown t3 hg) (fun e=>by subst e;exact t1 (zc hD h.blk)) (tR ho hbe t2 hg)
 have hz:∀g,Z g→w'.heap[g]? = w.heap[g]? := fun g hg=>hfr g (h.zm g hg).1 (fun e=>(hX g e).1 hg) (fun e=>(h.zm g hg).2.1 (by rw[e];exact mW)) (fun e=>(h.zm g hg).2.1 (mE g e))
 have hq4:∀g,(some g=v.ownBlock∨some g=va.ownBlock∨some g=vb.ownBlock∨some g=vc.ownBlock)→g<w'.heap.size∧some g≠ke'.ownBlock:=fun g hg=>by
  by_cases hv0:some g=v.ownBlock
  ·have hl:=(zw hown hv0).2.1;refine⟨by omega,fun e=>?_⟩
   rcases hnb g e with e|e
   ·exact hvM g hv0 (mE g e)
   ·omega
  have hty:(∃C,w'.heap[g]? = some (Obj.cells C 66 (0,0))):=by
   rcases hg with hg|hg|hg|hg
   ·exact absurd hg hv0
   ·exact yQ hk.ra hg (by omega)
   ·exact yQ hk.rb hg (by omega)
   ·exact yQ hk.rc hg (by omega)
  obtain⟨C,hC⟩:=hty;refine⟨(Mth.gI hC),fun e=>?_⟩;obtain⟨_,_,D,hD⟩:=zw hk.row e;exact absurd (zc hC hD) (by decide)
 have key:=h.books (w':=w') (ke':=ke') (ks':=ks) (kr':=kr) (Ne':=Ne+1) (Ns':=Ns) (Nr':=Nr) (M':=M+1) (X:=fun g=>some g=v.ownBlock) (Y:=fun g=>some g=v.ownBlock∨some g=va.ownBlock∨some g=vb.ownBlock∨some g=vc.ownBlock) hsz (fun g h1 h2 h3 h4 _ _=>hfr g h1 h2 h3 h4) (fun g hg=>⟨(hX g hg).1,hvM g hg,(hX g hg).2,hvN g hg⟩) hk.wblk
  (Bok.more hbq hz (fun _ q=>Or.inl q) hk.row (fun _ _=>rfl) (n:=n) (by omega) hk.rl hk.ra hk.rb hk.rc (fun g hg=>Or.inr hg))
  (by obtain⟨q2,h1,h2⟩:=h.bs;exact Bok.same ⟨q2,h1,h2⟩ (hks h1 (by decide) (by decide) (by decide)) hz (fun _ q=>Or.inl q))
  (by obtain⟨F,hF,q2,h1,h2⟩:=h.br;exact⟨F,hF,Bok.same ⟨q2,h1,h2⟩ (hks h1 (by decide) (by decide) (by decide)) hz (fun _ q=>Or.inl q)⟩)
  (fun g hg=>by
   rcases hg with hg|hg|hg
   ·rcases hnb g hg with e|e
    ·exact Or.inl (Or.inl e)
    ·exact Or.inr e
   ·exact Or.inl (Or.inr (Or.inl hg))
   ·exact Or.inl (Or.inr (Or.inr hg)))
  (fun g hg=>⟨(hq4 g hg).1,hkn g hg,(hq4 g hg).2,fun e=>?_,fun e=>?_⟩) (by omega) (by omega)
 ·refine⟨rfl,_,ke',fun g hg=>Or.inl hg,key,⟨hk.os,hk.tape,hk.output,hsz,fun g hg=>hk.same g (by omega) (fun e=>by have:=h.ge;omega) (fun e=>by have:=(zw hbe e).1;omega)⟩,fun g h1 h2 h3=>hfr g h1 h2 (fun e=>h3 (by rw[e];exact mW)) (fun e=>h3 (mE g e)),fun g hg=>?_,fun g hg=>hg.imp id (hkn g)⟩
  rcases hg with q|q|q|q
  ·exact Or.inl (Or.inl q)
  ·exact Or.inl (Or.inr (Or.inl q))
  ·rcases hnb g q with e|e
   ·exact Or.inl (mE g e)
   ·exact Or.inr e
  ·exact Or.inl (Or.inr (Or.inr (Or.inr q)))
 ·obtain⟨q2,h1,_⟩:=h.bs
  rcases hkn g hg with e2|e2
  ·exact hvM g e2 (Or.inr (Or.inr (Or.inr (Or.inl e))))
  ·have:=(zw h1 e).2.1;omega
 ·obtain⟨F,_,q2,h1,_⟩:=h.br
  rcases hkn g hg with e2|e2
  ·exact hvM g e2 (Or.inr (Or.inr (Or.inr (Or.inr (Or.inl e)))))
  ·have:=(zw h1 e).2.1;omega
end Go.Proofs.YtkncboinfcnklaaGreatDoor.Lw
namespace Go.Proofs.YtkncboinfcnklaaGreatDoor.Lw
open Go.RowKit Go.Deep Go.Shelf Go.Proofs.YtkncboinfcnklaaGreatDoor.Mth Go.Proofs.YtkncboinfcnklaaGreatDoor.Rl Go.Proofs.YtkncboinfcnklaaGreatDoor.Kp
theorem eQ {w:World}{B B':Nat}{e:TypeId}{sz n:Nat}{v:Value}{xs ys:List Value}(h:w.ownsRow B e sz v n xs) (h':w.ownsRow B' e sz v n ys):xs=ys:=by
 rcases h.2 with⟨q1,q2⟩|⟨g,cap,cur,q1,_⟩
 ·have a:=h.1;have b:=h'.1;rw[q2,Nat.zero_mul]at a b;rw[List.eq_nil_of_length_eq_zero a,List.eq_nil_of_length_eq_zero b]
 ·subst q1;have a:=h.1;have b:=h'.1;apply List.ext_getElem?;intro j;by_cases hj:j<xs.length
  ·have hj':j<ys.length:=by omega
   have h1:=zg h (List.getElem?_eq_getElem hj);have h2:=zg h' (List.getElem?_eq_getElem hj');rw[h1]at h2;rw[List.getElem?_eq_getElem hj,List.getElem?_eq_getElem hj'];exact h2
  ·rw[List.getElem?_eq_none (by omega),List.getElem?_eq_none (by omega)]
structure RwA (Bs:Nat) (w:World) (rb:Nat) (lev:Nat→List (List Ent)) (vs:Nat→Value):Prop where
 ge:Bs≤rb
 blk:w.heap[rb]? = some (Obj.cells (oi vs) 75 (0,0))
 row:∀k,k<6→w.ownsRow Bs 142 3 (vs k) (lev k).length ((lev k).flatMap ud)
 dis:∀a b,a<6→b<6→a≠b→∀g,some g=(vs a).ownBlock→some g≠(vs b).ownBlock
theorem RwA.same {Bs:Nat}{w w':World}{rb:Nat}{lev:Nat→List (List Ent)}{vs:Nat→Value}(h:RwA Bs w rb lev vs) (hs:∀g,Bs≤g→g<w.heap.size→w'.heap[g]? = w.heap[g]?):RwA Bs w' rb lev vs:=
 ⟨h.ge,(hs rb h.ge (Mth.gI h.blk)).trans h.blk,fun k hk=>zn (h.row k hk) (fun g hg=>hs g (zw (h.row k hk) hg).1 (zw (h.row k hk) hg).2.1),h.dis⟩
theorem RwA.base {Bs Bs':Nat}{w:World}{rb:Nat}{lev:Nat→List (List Ent)}{vs:Nat→Value}(h:RwA Bs w rb lev vs) (hb:Bs'≤Bs):RwA Bs' w rb lev vs:=⟨Nat.le_trans hb h.ge,h.blk,fun k hk=>zW (h.row k hk) hb,h.dis⟩
theorem RwA.own {Bs:Nat}{w:World}{rb:Nat}{lev:Nat→List (List Ent)}{vs:Nat→Value}(h:RwA Bs w rb lev vs):w.ownsRow Bs 75 1 (.slice (some ⟨rb,0,none⟩) 6 6) 6 (oi vs).toList:=⟨rfl,Or.inr ⟨rb,6,oi vs,rfl,h.ge,h.blk,by omega,by unfold maxLen;omega,rfl,rfl⟩⟩
theorem lG {P:Lg→List Tl→Prop}{Z:Nat→Prop}{w:World}{B wb B0 rb:Nat}{g0 g1 g2 g3 hv ke ks kr:Value}{Ne Ns Nr M:Nat}{hs:List Ho}{lev:Nat→List (List Ent)}{vs:Nat→Value}(h:HI P Z w B wb g0 g1 g2 g3 hv ke ks kr Ne Ns Nr M hs none) (hrw:RwA B0 w rb lev vs) (hll:∀k,k<6→(lev k).length≤500000) (hM:M≤400000) (hNs:Ns+6≤8*M) (hNr:Nr+1≤M) (hB0:B0≤w.heap.size) (hBB:B≤B0) (hwb:wb<B0) (hkr:∀g,some g=kr.ownBlock→g<B0) (hmu:∀g,(g=rb∨∃k,k<6∧some g=(vs k).ownBlock)→¬Mu wb hv ke ks kr (hs.map Ho.hb) g)
  (hX:∀g,(g=rb∨∃k,k<6∧some g=(vs k).ownBlock)→¬Z g∧∀j,j<hs.length→(hs.getD j h0).ρ g=0) :
  Calls Tryz.prog 136 #[.pointer (some ⟨wb,9,none⟩), .slice (some ⟨rb,0,none⟩) 6 6] w fun e w'=>e=.returned (.tuple #[])∧HS P Z w w' B wb g0 g1 g2 g3 M:=by
 have hmb:=h.mb;obtain⟨F0,hF0,q0,hbr0,hbq0⟩:=h.br;have hrbl:rb<w.heap.size:=(Mth.gI hrw.blk);have mW:Mu wb hv ke ks kr (hs.map Ho.hb) wb:=Or.inl rfl
 have mR:∀ {ks':Value} g,some g=kr.ownBlock→Mu wb hv ke ks' kr (hs.map Ho.hb) g:=fun g q=>Or.inr (Or.inr (Or.inr (Or.inr (Or.inl q))))
 have hrbT:∀k,k<6→some rb≠(vs k).ownBlock:=fun k hk e=>by
  obtain⟨_,_,D,hD⟩:=zw (hrw.row k hk) e;exact absurd (zc hrw.blk hD) (by decide)
 obtain⟨R,hR⟩:∃R:Nat→World→Prop,R=fun k W=>∃Zk ksk,(∀g,Z g→Zk g)∧HI P Zk W B wb g0 g1 g2 g3 hv ke ksk kr Ne (Ns+k) Nr M hs none∧Below B w W∧(∀g,g<w.heap.size→¬Mu wb hv ke ks kr (hs.map Ho.hb) g→(∀j,j<k→some g≠(vs j).ownBlock)→W.heap[g]? = w.heap[g]?)∧(∀g,Mu wb hv ke ksk kr (hs.map Ho.hb) g→Mu wb hv ke ks kr (hs.map Ho.hb) g∨w.heap.size≤g)∧(∀g,Zk g→Z g∨(∃j,j<k∧some g=(vs j).ownBlock)∨w.heap.size≤g)∧W.ownsRow B 175 5 kr Nr ((List.range Nr).flatMap (qc q0)):=⟨_,rfl⟩
 have hrow6:∀k W,k≤6→R k W→W.heap[rb]? = w.heap[rb]? ∧ ∀j,k≤j→j<6→W.ownsRow B0 142 3 (vs j) (lev j).length ((lev j).flatMap ud):=fun k W hk hRk=>by
  rw[hR]at hRk;obtain⟨Zk,ksk,_,_,_,a4,_⟩:=hRk;refine⟨a4 rb hrbl (hmu rb (Or.inl rfl)) (fun j hj=>hrbT j (by omega)),fun j h1 h2=>zn (hrw.row j h2) (fun g hg=>?_)⟩;obtain⟨q1,q2,_⟩:=zw (hrw.row j h2) hg;exact a4 g q2 (hmu g (Or.inr ⟨j,h2,hg⟩)) (fun j' hj'=>hrw.dis j j' h2 (by omega) (by omega) g hg)
 refine(rF R w B0 wb B rb 6 6 Nr vs kr ((List.range Nr).flatMap (qc q0)) (by omega) (by omega) (by omega) hwb hkr hBB (by omega) ?_ ?_ ?_).mono ?_
 ·rw[hR];exact⟨Z,ks,fun _ q=>q,h,Below.refl _ _,fun _ _ _ _=>rfl,fun g hg=>Or.inl hg,fun g hg=>Or.inl hg,hbr0⟩
 ·intro k W hk hRk;obtain⟨b1,b2⟩:=hrow6 k W (by omega) hRk;have hvk:=b2 k (Nat.le_refl _) hk;obtain⟨a,c,ea,_,_⟩:=zu hvk;refine⟨(zy (b1.trans hrw.blk) (p8 vs hk)).1,⟨a,_,c,ea⟩,?_⟩;have hRk':=hRk;rw[hR]at hRk';obtain⟨Zk,ksk,a1,a2,a3,a4,a5,a6,a7⟩:=hRk';have hlk:=hll k hk
  have hkb:∀g,some g=(vs k).ownBlock→B0≤g∧g<w.heap.size:=fun g hg=>⟨(zw (hrw.row k hk) hg).1,(zw (hrw.row k hk) hg).2.1⟩
  refine(iN a2 hvk (by omega) hM (by omega) (Nat.le_trans hB0 a3.size) hBB hwb (fun g hg hm=>?_) (fun g hg=>⟨fun hz=>?_,(hX g (Or.inr ⟨k,hk,hg⟩)).2⟩)).mono ?_
  ·have h1:=hkb g hg
   rcases a5 g hm with q|q
   ·exact hmu g (Or.inr ⟨k,hk,hg⟩) q
   ·omega
  ·rcases a6 g hz with q|⟨j,hj,q⟩|q
   ·exact(hX g (Or.inr ⟨k,hk,hg⟩)).1 q
   ·exact hrw.dis k j hk (by omega) (by omega) g hg q
   ·have:=hkb g hg;omega
  ·rintro e W' ⟨rfl,Z',ks',c1,c2,c3,c4,c5,c6,c7⟩;refine⟨rfl,?_⟩;rw[hR];have hsz:=a3.size;refine⟨Z',ks',fun g hg=>c1 g (a1 g hg),c2,a3.trans c3,fun g h1 h2 h3=>?_,fun g hg=>?_,fun g hg=>?_,zn a7 (fun g hg=>c6 g hg)⟩
   ·rw[c4 g (by omega) (h3 k (by omega)) (fun q=>?_)]
    ·exact a4 g h1 h2 (fun j hj=>h3 j (by omega))
    ·rcases a5 g q with q|q
     ·exact h2 q
     ·omega
   ·rcases c5 g hg with q|q
    ·exact a5 g q
    ·exact Or.inr (Nat.le_trans hsz q)
   ·rcases c7 g hg with q|q|q
    ·rcases a6 g q with q|⟨j,hj,q⟩|q
     ·exact Or.inl q
     ·exact Or.inr (Or.inl ⟨j,by omega,q⟩)
     ·exact Or.inr (Or.inr q)
    ·exact Or.inr (Or.inl ⟨k,by omega,q⟩)
    ·exact Or.inr (Or.inr (Nat.le_trans hsz q))
 ·intro W hR6;obtain⟨b1,_⟩:=hrow6 6 W (by omega) hR6;rw[hR]at hR6;obtain⟨Zk,ksk,a1,a2,a3,a4,a5,a6,a7⟩:=hR6;refine⟨⟨_,a2.blk,rfl,rfl⟩,a7,Nat.le_trans hB0 a3.size,(oi vs).toList,zn hrw.own (fun g hg=>?_)⟩
  injection hg with hg
  rw[hg];exact b1
 ·rintro e w' ⟨rfl,W,C,kr',va,vb,vc,hR6,hC,hk,hkn,hnb,hfr⟩;obtain⟨b1,_⟩:=hrow6 6 W (by omega) hR6;rw[hR]at hR6;obtain⟨Zk,ksk,a1,a2,a3,a4,a5,a6,a7⟩:=hR6;have hwsz:=a3.size;have hsz:=hk.size
  have hCe:C=dP g0 g1 g2 g3 hv ke ksk kr:=by
   rw[a2.blk]at hC
   injection hC with hC
   injection hC with hC _ _
   exact hC.symm
  obtain⟨F,hF,q,hbr,hbq⟩:=a2.br;have hxs:=eQ a7 hbr;have hrow:=hk.row;rw[hxs]at hrow;have hbrb:W.heap[rb]? = some (Obj.cells (oi vs) 75 (0,0)):=b1.trans hrw.blk;have hrbB:=hrw.ge
  have hrbM:¬Mu wb hv ke ksk kr (hs.map Ho.hb) rb:=fun hm=>by
   rcases a5 rb hm with q|q
   ·exact hmu rb (Or.inl rfl) q
   ·omega
  have hrbZ:¬Zk rb:=fun hz=>by
   rcases a6 rb hz with q|⟨j,hj,q⟩|q
   ·exact(hX rb (Or.inl rfl)).1 q
   ·exact hrbT j (by omega) q
   ·omega
  have hks:∀ {T:TypeId}{sz N:Nat}{u:Value}{xs:List Value},W.ownsRow B T sz u N xs→T≠91→T≠175→T≠75→∀g,some g=u.ownBlock→w'.heap[g]? = W.heap[g]? := fun {T sz N u xs} ho t1 t2 t3 g hg=>by
   obtain⟨_,hl,D,hD⟩:=zw ho hg;exact hfr g hl (fun e=>by subst e;exact t3 (zc hD hbrb)) (fun e=>by subst e;exact t1 (zc hD a2.blk)) (tR ho a7 t2 hg)
  have hz:∀g,Zk g→w'.heap[g]? = W.heap[g]? := fun g hg=>hfr g (a2.zm g hg).1 (fun e=>hrbZ (by rw[←e];exact hg)) (fun e=>(a2.zm g hg).2.1 (by rw[e];exact Or.inl rfl)) (fun e=>(a2.zm g hg).2.1 (mR g e))
  have hty:∀g,(some g=some rb∨some g=va.ownBlock∨some g=vb.ownBlock∨some g=vc.ownBlock)→∃D,w'.heap[g]? = some (Obj.cells D 75 (0,0)):=fun g hg=>by
   rcases hg with hg|hg|hg|hg
   ·exact yQ hk.rl hg (by omega)
   ·exact yQ hk.ra hg (by omega)
   ·exact yQ hk.rb hg (by omega)
   ·exact yQ hk.rc hg (by omega)
  have hq4:∀g,(some g=some rb∨some g=va.ownBlock∨some g=vb.ownBlock∨some g=vc.ownBlock)→g<w'.heap.size∧some g≠kr'.ownBlock:=fun g hg=>by
   obtain⟨D,hD⟩:=hty g hg;refine⟨(Mth.gI hD),fun e=>?_⟩;obtain⟨_,_,E,hE⟩:=zw hk.row e;exact absurd (zc hD hE) (by decide)
  have hge:∀g,(some g=some rb∨some g=va.ownBlock∨some g=vb.ownBlock∨some g=vc.ownBlock)→g=rb∨W.heap.size≤g:=fun g hg=>by
   rcases hkn g hg with e|e
   ·injection e with e;exact Or.inl e
   ·exact Or.inr e
  have hold:∀ {T:TypeId}{sz N:Nat}{u:Value}{xs:List Value},W.ownsRow B T sz u N xs→T≠75→∀g,(some g=some rb∨some g=va.ownBlock∨some g=vb.ownBlock∨some g=vc.ownBlock)→some g≠u.ownBlock:=fun {T sz N u xs} ho t g hg e=>by
   obtain⟨_,hl,D,hD⟩:=zw ho e
   rcases hge g hg with q|q
   ·subst q;exact t (zc hD hbrb)
   ·omega
  have hFn:∀i,i<Nr→(fun i=>if i=Nr then fR W.heap.size Nr else F i) i=F i:=fun i hi=>if_neg (by omega)
  have hwblk:=hk.wblk;rw[hCe]at hwblk
  have key:=a2.books (w':=w') (ke':=ke) (ks':=ksk) (kr':=kr') (Ne':=Ne) (Ns':=Ns+6) (Nr':=Nr+1) (M':=M) (X:=fun g=>g=rb) (Y:=fun g=>some g=some rb∨some g=va.ownBlock∨some g=vb.ownBlock∨some g=vc.ownBlock) hsz (fun g h1 h2 h3 _ _ h4=>hfr g h1 h2 h3 h4) (fun g hg=>by
    subst hg;refine⟨hrbZ,hrbM,(hX g (Or.inl rfl)).2,?_⟩;rintro ⟨C',fr,h3⟩
    exact absurd (zc hbrb h3) (by decide)) hwblk
   (by obtain⟨q2,h1,h2⟩:=a2.be;exact Bok.same ⟨q2,h1,h2⟩ (hks h1 (by decide) (by decide) (by decide)) hz (fun _ q=>Or.inl q))
   (by obtain⟨q2,h1,h2⟩:=a2.bs;exact Bok.same ⟨q2,h1,h2⟩ (hks h1 (by decide) (by decide) (by decide)) hz (fun _ q=>Or.inl q))
   ⟨fun i=>if i=Nr then fR W.heap.size Nr else F i,fun i j=>by
    by_cases e:i=Nr
    ·subst e;exact⟨some ⟨W.heap.size,0,none⟩,i+1,by simp[fR]⟩
    ·obtain⟨a,c,h1⟩:=hF i j
     exact⟨a,c,by simp[e,h1]⟩,Bok.more hbq hz (fun _ q=>Or.inl q) hrow hFn (n:=6) (by omega) (by rw[if_pos rfl];exact hk.rl) (by rw[if_pos rfl];exact hk.ra) (by rw[if_pos rfl];exact hk.rb) (by rw[if_pos rfl];exact hk.rc) (fun g hg=>Or.inr hg)⟩
   (fun g hg=>by
    rcases hg with hg|hg|hg
    ·exact Or.inl (Or.inl hg)
    ·exact Or.inl (Or.inr (Or.inl hg))
    ·rcases hnb g hg with e|e
     ·exact Or.inl (Or.inr (Or.inr e))
     ·exact Or.inr e)
   (fun g hg=>⟨(hq4 g hg).1,hge g hg,by obtain⟨q2,h1,_⟩:=a2.be;exact hold h1 (by decide) g hg,by obtain⟨q2,h1,_⟩:=a2.bs;exact hold h1 (by decide) g hg,(hq4 g hg).2⟩) (by omega) (by omega)
  have hbW:Below B W w':=⟨hk.os,hk.tape,hk.output,hsz,fun g hg=>hfr g (by omega) (fun e=>by omega) (fun e=>by have:=h.ge;omega) (fun e=>by have:=(zw a7 e).1;omega)⟩;refine⟨rfl,a3.trans hbW,fun g hg=>?_,_,hv,ke,ksk,kr',_,_,_,hs,fun g hg=>Or.inl (a1 g hg),key⟩;rw[hz g (a1 g hg)];exact a4 g (h.zm g hg).1 (h.zm g hg).2.1 (fun j hj e=>(hX g (Or.inr ⟨j,hj,e⟩)).1 hg)
end Go.Proofs.YtkncboinfcnklaaGreatDoor.Lw
