import Derived.Test.YtkncboinfcnklaaGreatDoorQ22
set_option maxRecDepth 100000
set_option maxHeartbeats 8000000
namespace Go.Proofs.YtkncboinfcnklaaGreatDoor.Rl
open Go.RowKit Go.Deep Go.Shelf Go.Proofs.YtkncboinfcnklaaGreatDoor.Mth
theorem xM {W:World}{B:Nat}{e:TypeId}{sz:Nat}{v:Value}{n:Nat}{xs:List Value}(h:W.ownsRow B e sz v n xs){k:Nat}{C:Array Value}{t:TypeId}(hk:W.heap[k]? = some (Obj.cells C t (0,0))) (ht:t≠e):some k≠v.ownBlock:=fun q=>by
 obtain⟨_,_,D,hD⟩:=zw h q;exact ht (zc hk hD)
def vG (L:Lg) (all:List Ent) (s:ByteArray):Ent:=⟨(all.length:Int),(L.clock:Int),s⟩
theorem qK {w:World}{B cb:Nat}{V:Rv}{L:Lg}{all:List Ent}(hb:w.heap[cb]? = some (Obj.cells (zR V L) 234 (0,0))) (h:w.ownsRow B 66 3 V.av all.length (all.flatMap eC)) (s:ByteArray) (hl:all.length≤4194303):Calls Tryz.prog 128 #[zr cb, .string s] w fun e w'=>∃av',e=.returned (.agg #[.int .i64 (L.clock:Int),av'])∧w'.ownsRow w.heap.size 66 3 av' (all++[vG L all s]).length ((all++[vG L all s]).flatMap eC)∧Below w.heap.size w w':=by
 obtain⟨i0,hi0,hz0,hz1,hz2⟩:=info_parts Tryz.info66;obtain⟨a,k,hav,_,_⟩:=zu h;have hb1:=zv w (Obj.cells #[.int .i64 0, .slice none 0 0] 228);have k1:=zj w #[.int .i64 0, .slice none 0 0] 228;obtain⟨W,hW⟩:∃W,W=w.alloc (Obj.cells #[.int .i64 0, .slice none 0 0] 228):=⟨_,rfl⟩;rw[←hW]at hb1 k1;have hcb:cb<w.heap.size:=(Mth.gI hb);have hbW:=(hb1.block cb hcb).trans hb;have c6:=(zy (j:=6) (u:=.int .i64 (L.clock:Int)) hbW rfl).1;have c7:=(zy (j:=7) (u:=V.av) hbW rfl).1
 have vu:W.heap.size=w.heap.size+1:=by rw[hW];simp
 have CK:=zx (vI (c:=(L.clock:Int)) (zq h hb1) (by omega));rw[hav]at c7 CK;have HK1:=zx k1;have HB1:=zx hb1;have HW:=zx hW;have HSW:=zx vu;have HCB:=zx hcb
 have FIN:Hid (∀(W2:World) (v2:Value),W2.ownsRow W.heap.size 66 3 v2 all.length (all.flatMap eC)→Below W.heap.size W W2→∀W3,W3=W2.alloc (Obj.cells #[.int .i64 (L.clock:Int),v2] 228)→W3.heap[W2.heap.size]? = some (Obj.cells #[.int .i64 (L.clock:Int),v2] 228 (0,0))∧(W3.alloc (Obj.cells #[.int .i64 (all.length:Int), .int .i64 (L.clock:Int), .string s] 66)).ownsRow w.heap.size 66 3 v2 all.length (all.flatMap eC)∧w.heap.size≤W3.heap.size ∧
   ∀W5 v5,(W3.alloc (Obj.cells #[.int .i64 (all.length:Int), .int .i64 (L.clock:Int), .string s] 66)).grownBy W5 v2.ownBlock→W5.ownsRow w.heap.size 66 3 v5 (all.length+1) (all.flatMap eC++[.int .i64 (all.length:Int), .int .i64 (L.clock:Int), .string s])→W5.heap[W2.heap.size]? = some (Obj.cells #[.int .i64 (L.clock:Int),v2] 228 (0,0))∧W5.heap[w.heap.size]? = some (Obj.cells #[.int .i64 0, .slice none 0 0] 228 (0,0))∧∀W7,W7=((W5.setCell ⟨W2.heap.size,1,none⟩ v5).setCell ⟨w.heap.size,0,none⟩ (.int .i64 (L.clock:Int))).setCell ⟨w.heap.size,1,none⟩ v5→W7.heap[w.heap.size]? = some (Obj.cells #[.int .i64 (L.clock:Int),v5] 228 (0,0))∧W7.ownsRow w.heap.size 66 3 v5 (all++[vG L all s]).length ((all++[vG L all s]).flatMap eC)∧Below w.heap.size w W7):=by
  intro W2 v2 o2 b2 W3 hW3;have hs:=HSW.out
  have e3:W3.heap[W2.heap.size]? = some (Obj.cells #[.int .i64 (L.clock:Int),v2] 228 (0,0)):=by rw[hW3];exact zj _ _ _
  have b3:Below W2.heap.size W2 W3:=by rw[hW3];exact zv _ _
  have hs3:W3.heap.size=W2.heap.size+1:=by rw[hW3];simp
  have hs2:=b2.size;have o3:=zq o2 b3;have b4:=zv W3 (Obj.cells #[.int .i64 (all.length:Int), .int .i64 (L.clock:Int), .string s] 66);have o4:=zq o3 b4;have z3:W3.heap[w.heap.size]? = some (Obj.cells #[.int .i64 0, .slice none 0 0] 228 (0,0)):=(b3.block _ (by omega)).trans ((b2.block _ (by omega)).trans HK1.out);refine⟨e3,zW o4 (by omega),by omega,fun W5 v5 g5 o5=>?_⟩;have e5:W5.heap[W2.heap.size]? = some (Obj.cells #[.int .i64 (L.clock:Int),v2] 228 (0,0)):=(g5.block _ (by simp;omega) (xM o3 e3 (by decide))).trans ((b4.block _ (by omega)).trans e3);have z5:W5.heap[w.heap.size]? = some (Obj.cells #[.int .i64 0, .slice none 0 0] 228 (0,0)):=(g5.block _ (by simp;omega) (xM o3 z3 (by decide))).trans ((b4.block _ (by omega)).trans z3);refine⟨e5,z5,fun W7 hW7=>?_⟩;subst hW7;have z6:(W5.setCell ⟨W2.heap.size,1,none⟩ v5).heap[w.heap.size]? = some (Obj.cells #[.int .i64 0, .slice none 0 0] 228 (0,0)):=(zt (by omega)).trans z5;have z7:=zh (j:=0) (v:=.int .i64 (L.clock:Int)) z6;have z8:=zh (j:=1) (v:=v5) z7;refine⟨z8,?_,?_⟩
  ·have o6:W5.ownsRow w.heap.size 66 3 v5 (all++[vG L all s]).length ((all++[vG L all s]).flatMap eC):=by simpa [vG,eC] using o5
   exact zl (zl (zl o6 e5 (by decide)) z6 (by decide)) z7 (by decide)
  ·have b5:Below w.heap.size w W5:=⟨g5.os.trans (b4.os.trans (b3.os.trans (b2.os.trans HB1.out.os))),g5.tape.trans (b4.tape.trans (b3.tape.trans (b2.tape.trans HB1.out.tape))),g5.output.trans (b4.output.trans (b3.output.trans (b2.output.trans HB1.out.output))),by have:=g5.size;simp at this;omega,fun k hk=>(g5.block k (by simp;omega) (fun q=>by have:=(zw o2 q).1;omega)).trans ((b4.block k (by omega)).trans ((b3.block k (by omega)).trans ((b2.block k (by omega)).trans (HB1.out.block k hk))))⟩;exact zZ (zZ (zZ b5 (by omega)) (Nat.le_refl _)) (Nat.le_refl _)
 clear hb h hbW hav k1 hb1 hW vu;generalize (L.clock:Int)=ck at *
 go_enter Tryz.func128,Tryz.ntmps128
 go_upto_region 1 with fail
 rw[←HW.out]
 go_upto_region 2 with(first|(go_at_call 199;refine CK.out.mono ?_;rintro e W2 ⟨av',rfl,o2,b2⟩;have hlt:w.heap.size<W2.heap.size:=(by have:=b2.size;have:=HSW.out;omega);have hf:=FIN.out W2 _ o2 b2;have HF:=zx hf;obtain⟨a2,c2,rfl,_,_⟩:=zu o2;clear o2 b2 hf))
 obtain⟨W3,hW3⟩:∃W3,W3=W2.alloc (Obj.cells #[.int .i64 ck, .slice a2 all.length c2] 228):=⟨_,rfl⟩;obtain⟨e3,o3,s3,hf⟩:=HF.out W3 hW3;rw[←hW3];obtain⟨x0,_⟩:=zy (j:=0) (u:=.int .i64 ck) e3 rfl;obtain⟨x1,y1⟩:=zy (j:=1) (u:=.slice a2 all.length c2) e3 rfl;have HO3:=zx o3;have HF5:=zx hf;clear e3 o3 hf hW3 HF FIN CK;generalize hn:w.heap.size=n at *;have HN:=zx hn;generalize W2.heap.size=m at *;clear hn
 have hne1:¬m=n:=by omega
 have hne2:¬n=m:=by omega
 go_wp2_with (first|(at_builtin;refine zb _ rfl _ _ 57 rfl n 0 66 i0 (.agg #[.int .i64 0, .int .i64 0, .string ByteArray.empty]) 3 32 Tryz.underlying57 hi0 hz0 hz1 hz2 rfl (by decide) _ _ _ rfl HO3.out _ _ _ rfl (World.ownsRow_lit W3 #[.int .i64 (all.length:Int), .int .i64 ck, .string s] 1 (Nat.zero_le _) (by decide) rfl) (by intro u hu;simp at hu;rcases hu with rfl|rfl|rfl <;> rfl) (by unfold maxLen;omega) (by omega) (by simp;omega) ?_;intro v5 W5 o5 g5 n5;obtain⟨e5,z5,hf7⟩:=HF5.out W5 v5 g5 o5;obtain⟨p0,_⟩:=zy (j:=0) (u:=.int .i64 ck) e5 rfl;obtain⟨p1,p2⟩:=zy (j:=1) (u:=.slice a2 all.length c2) e5 rfl;obtain⟨p3,p4⟩:=zy (j:=0) (u:=.int .i64 0) z5 rfl;obtain⟨p5,p6⟩:=zy (j:=1) (u:=.slice none 0 0) z5 rfl;have HF7:=zx hf7;obtain⟨a5,c5,rfl,_,_⟩:=zu o5;clear o5 g5 n5 e5 z5 hf7));obtain⟨W7,hW7⟩:∃W7,W7=((W5.setCell ⟨m,1,none⟩ (.slice a5 (all.length+1) c5)).setCell ⟨n,0,none⟩ (.int .i64 ck)).setCell ⟨n,1,none⟩ (.slice a5 (all.length+1) c5):=⟨_,rfl⟩;obtain⟨r1,r2,r3⟩:=HF7.out W7 hW7;rw[←hW7];have hld:=run_loadVar_row (P:=Tryz.prog) W7 n 228 228 _ _ _ r1 Tryz.underlying228 rfl Tryz.sizeKept;refine bodyPost_ret (v:=.agg #[.int .i64 ck, .slice a5 (all.length+1) c5]) ?_ rfl ⟨_,rfl,?_,?_⟩
 ·rw[za rfl];simp[asAddr,Result.andThen,hld]
 ·rw[HN.out];exact r2
 ·rw[HN.out];exact r3
theorem qZ {w:World}{B cb:Nat}{V:Rv}{L:Lg}{all:List Ent}(hb:w.heap[cb]? = some (Obj.cells (zR V L) 234 (0,0))) (h:w.ownsRow B 66 3 V.av all.length (all.flatMap eC)) (k:Int) (hl:all.length≤4194303) (hc:L.clock≤1000000000000):Calls Tryz.prog 130 #[zr cb, .int .i64 k] w fun e w'=>∃c' av',e=.returned (.agg #[.int .i64 c',av'])∧(0≤k→k≤1000→c'=(L.clock:Int)+k)∧w'.ownsRow w.heap.size 66 3 av' all.length (all.flatMap eC)∧Below w.heap.size w w':=by
 obtain⟨a,kk,hav,_,_⟩:=zu h;have hb1:=zv w (Obj.cells #[.int .i64 0, .slice none 0 0] 228);have k1:=zj w #[.int .i64 0, .slice none 0 0] 228;obtain⟨W,hW⟩:∃W,W=w.alloc (Obj.cells #[.int .i64 0, .slice none 0 0] 228):=⟨_,rfl⟩;rw[←hW]at hb1 k1;have hcb:cb<w.heap.size:=(Mth.gI hb);have hbW:=(hb1.block cb hcb).trans hb;have c6:=(zy (j:=6) (u:=.int .i64 (L.clock:Int)) hbW rfl).1;have c7:=(zy (j:=7) (u:=V.av) hbW rfl).1
 have vu:W.heap.size=w.heap.size+1:=by rw[hW];simp
 have CK:=zx (vI (c:=(L.clock:Int)) (zq h hb1) (by omega));rw[hav]at c7 CK;have HK1:=zx k1;have HB1:=zx hb1;have HW:=zx hW;have HSW:=zx vu
 have FIN:Hid (∀(W2:World) (v2:Value),W2.ownsRow W.heap.size 66 3 v2 all.length (all.flatMap eC)→Below W.heap.size W W2→∀W3,W3=W2.alloc (Obj.cells #[.int .i64 (L.clock:Int),v2] 228)→W3.heap[W2.heap.size]? = some (Obj.cells #[.int .i64 (L.clock:Int),v2] 228 (0,0))∧W3.heap[w.heap.size]? = some (Obj.cells #[.int .i64 0, .slice none 0 0] 228 (0,0))∧∀c' W7,W7=((W3.setCell ⟨W2.heap.size,0,none⟩ (.int .i64 c')).setCell ⟨w.heap.size,0,none⟩ (.int .i64 c')).setCell ⟨w.heap.size,1,none⟩ v2→W7.heap[w.heap.size]? = some (Obj.cells #[.int .i64 c',v2] 228 (0,0))∧W7.ownsRow w.heap.size 66 3 v2 all.length (all.flatMap eC)∧Below w.heap.size w W7):=by
  intro W2 v2 o2 b2 W3 hW3;have hs:=HSW.out
  have e3:W3.heap[W2.heap.size]? = some (Obj.cells #[.int .i64 (L.clock:Int),v2] 228 (0,0)):=by rw[hW3];exact zj _ _ _
  have b3:Below W2.heap.size W2 W3:=by rw[hW3];exact zv _ _
  have hs2:=b2.size;have o3:=zq o2 b3;have z3:W3.heap[w.heap.size]? = some (Obj.cells #[.int .i64 0, .slice none 0 0] 228 (0,0)):=(b3.block _ (by omega)).trans ((b2.block _ (by omega)).trans HK1.out);refine⟨e3,z3,fun c' W7 hW7=>?_⟩;subst hW7;have z6:(W3.setCell ⟨W2.heap.size,0,none⟩ (.int .i64 c')).heap[w.heap.size]? = some (Obj.cells #[.int .i64 0, .slice none 0 0] 228 (0,0)):=(zt (by omega)).trans z3;have z7:=zh (j:=0) (v:=.int .i64 c') z6;have z8:=zh (j:=1) (v:=v2) z7;refine⟨z8,zW (zl (zl (zl o3 e3 (by decide)) z6 (by decide)) z7 (by decide)) (by omega),?_⟩;have b5:Below w.heap.size w W3:=HB1.out.trans ((b2.trans (b3.mono b2.size)).mono (by omega));exact zZ (zZ (zZ b5 (by omega)) (Nat.le_refl _)) (Nat.le_refl _)
 clear hb h hbW hav k1 hb1 hW vu;generalize hck:(L.clock:Int)=ck at *
 have hc1:0≤ck∧ck≤1000000000000:=by omega
 clear hck;have HCK:=zx hc1;clear hc1 hc
 go_enter Tryz.func130,Tryz.ntmps130
 go_upto_region 1 with fail
 rw[←HW.out]
 go_upto_region 2 with(first|(go_at_call 199;refine CK.out.mono ?_;rintro e W2 ⟨av',rfl,o2,b2⟩;have hlt:w.heap.size<W2.heap.size:=(by have:=b2.size;have:=HSW.out;omega);have hf:=FIN.out W2 _ o2 b2;have HF:=zx hf;obtain⟨a2,c2,rfl,_,_⟩:=zu o2;clear o2 b2 hf))
 obtain⟨W3,hW3⟩:∃W3,W3=W2.alloc (Obj.cells #[.int .i64 ck, .slice a2 all.length c2] 228):=⟨_,rfl⟩;obtain⟨e3,z3,hf⟩:=HF.out W3 hW3;rw[←hW3];obtain⟨x0,y0⟩:=zy (j:=0) (u:=.int .i64 ck) e3 rfl;obtain⟨x1,y1⟩:=zy (j:=1) (u:=.slice a2 all.length c2) e3 rfl;obtain⟨p3,p4⟩:=zy (j:=0) (u:=.int .i64 0) z3 rfl;obtain⟨p5,p6⟩:=zy (j:=1) (u:=.slice none 0 0) z3 rfl;have HF5:=zx hf;clear e3 z3 hf hW3 HF FIN CK;generalize hn:w.heap.size=n at *;have HN:=zx hn;generalize W2.heap.size=m at *;clear hn
 have hne1:¬m=n:=by omega
 have hne2:¬n=m:=by omega
 go_wp2_with fail;obtain⟨cc,hcc⟩:∃cc,cc=wrap64 (ck+k):=⟨_,rfl⟩;rw[←hcc];obtain⟨W7,hW7⟩:∃W7,W7=((W3.setCell ⟨m,0,none⟩ (.int .i64 cc)).setCell ⟨n,0,none⟩ (.int .i64 cc)).setCell ⟨n,1,none⟩ (.slice a2 all.length c2):=⟨_,rfl⟩;obtain⟨r1,r2,r3⟩:=HF5.out cc W7 hW7;rw[←hW7];have hld:=run_loadVar_row (P:=Tryz.prog) W7 n 228 228 _ _ _ r1 Tryz.underlying228 rfl Tryz.sizeKept;refine bodyPost_ret (v:=.agg #[.int .i64 cc, .slice a2 all.length c2]) ?_ rfl ⟨_,_,rfl,?_,?_,?_⟩
 ·rw[za rfl];simp[asAddr,Result.andThen,hld]
 ·intro h0 h1;have:=HCK.out;rw[hcc];unfold wrap64;omega
 ·rw[HN.out];exact r2
 ·rw[HN.out];exact r3
theorem sH {w:World}{B cb:Nat}{V:Rv}{L:Lg}(hb:w.heap[cb]? = some (Obj.cells (zR V L) 234 (0,0))) (h:w.ownsRow B 66 3 V.mv L.mem.length (L.mem.flatMap eC)) (_hl:L.mem.length≤4194303) (_hm:L.memory≤1000):Calls Tryz.prog 203 #[zr cb] w fun e w'=>e=.returned (.bool (decide (L.mem.length=L.memory)))∧Below w.heap.size w w':=by
 obtain⟨a,kk,hmv,_,_⟩:=zu h;have c0:=(zy (j:=0) (u:=.int .i64 (L.memory:Int)) hb rfl).1;have c8:=(zy (j:=8) (u:=V.mv) hb rfl).1;rw[hmv]at c8;clear h hmv hb;generalize L.mem.length=ml at *;generalize L.memory=mm at *
 go_enter Tryz.func203,Tryz.ntmps203
 have hd:((ml:Int) == (mm:Int))=decide (ml=mm):=by
  rw[Bool.eq_iff_iff];simp;omega
 go_wp2_with fail
 go_quiet (fail)
 go_wp2;go_ret;exact⟨by first|rfl|(rw[←hd];rfl)|simp,yR w _⟩
theorem fM {w:World}{cb:Nat}{V:Rv}{L:Lg}(hb:w.heap[cb]? = some (Obj.cells (zR V L) 234 (0,0))) (k:Int) (hk:-9223372036854775808≤k∧k≤9223372036854775807) (hc:L.clock≤1000000000000) (hn:yd L.clock k=false):Calls Tryz.prog 131 #[zr cb, .int .i64 k] w fun e w'=>e=.returned (.int .i64 1)∧Below w.heap.size w w':=by
 have c6:=(zy (j:=6) (u:=.int .i64 (L.clock:Int)) hb rfl).1;unfold yd at hn;clear hb;generalize hcc:(L.clock:Int)=ck at *
 have h0:0≤ck∧ck≤1000000000000:=by omega
 clear hcc hc;by_cases q1:k<1
 ·go_enter Tryz.func131,Tryz.ntmps131
  go_wp2;go_ret;exact⟨rfl,Below.refl _ _⟩
 ·by_cases q2:1000<k
  ·go_enter Tryz.func131,Tryz.ntmps131
   go_wp2;go_ret;exact⟨rfl,Below.refl _ _⟩
  ·have q3:1000000000000<ck+k:=by
    simp at hn;omega
   go_enter Tryz.func131,Tryz.ntmps131
   go_wp2;go_ret;exact⟨rfl,Below.refl _ _⟩
theorem fN {Z:Nat→Prop}{w:World}{B cb:Nat}{V:Rv}{L:Lg}{all:List Ent}{ts:List Tl}(hb:w.heap[cb]? = some (Obj.cells (zR V L) 234 (0,0))) (h:RfV Z B w V L all ts) (hB:B≤w.heap.size) (k:Nat) (hl:all.length≤4194303) (hc:L.clock≤1000000000000) (hn:yd L.clock (k:Int)=true):Calls Tryz.prog 131 #[zr cb, .int .i64 (k:Int)] w fun e w'=>e=.returned (.int .i64 0)∧Tch (fun g=>g=cb) w w'∧∃V',w'.heap[cb]? = some (Obj.cells (zR V' { L with clock:=L.clock+k }) 234 (0,0))∧RfV Z B w' V' { L with clock:=L.clock+k } all ts:=by
 unfold yd at hn
 have h0:1≤k∧k≤1000∧L.clock+k≤1000000000000:=by
  simp at hn;omega
 have c6:=zy (j:=6) (u:=.int .i64 (L.clock:Int)) hb rfl;have c7:=zy (j:=7) (u:=V.av) hb rfl;have c18:=(zy (j:=18) (u:=.bool false) hb rfl).1;have CL:=zx (qZ hb h.all (k:Int) hl hc);have hcb:cb<w.heap.size:=(Mth.gI hb)
 have FIN:Hid (∀W2 v2,W2.ownsRow w.heap.size 66 3 v2 all.length (all.flatMap eC)→Below w.heap.size w W2→W2.heap[cb]? = some (Obj.cells (zR V L) 234 (0,0))∧∀W7,W7=(W2.setCell ⟨cb,6,none⟩ (.int .i64 ((L.clock:Int)+(k:Int)))).setCell ⟨cb,7,none⟩ v2→Tch (fun g=>g=cb) w W7∧∃V',W7.heap[cb]? = some (Obj.cells (zR V' { L with clock:=L.clock+k }) 234 (0,0))∧RfV Z B W7 V' { L with clock:=L.clock+k } all ts):=by
  intro W2 v2 o2 b2;have e2:=(b2.block cb hcb).trans hb;refine⟨e2,fun W7 hW7=>?_⟩;subst hW7;have e3:=zh (j:=6) (v:=.int .i64 ((L.clock:Int)+(k:Int))) e2;have e4:=zh (j:=7) (v:=v2) e3
  have kp:∀ {B:Nat}{e:TypeId}{sz:Nat}{v:Value}{m:Nat}{xs:List Value},234≠e→W2.ownsRow B e sz v m xs→((W2.setCell ⟨cb,6,none⟩ (.int .i64 ((L.clock:Int)+(k:Int)))).setCell ⟨cb,7,none⟩ v2).ownsRow B e sz v m xs:=fun he ho=>zl (zl ho e2 he) e3 he
  have h2:=h.below b2;refine⟨⟨b2.os,b2.tape,b2.output,by simpa using b2.size,fun g hg hne=>(zt hne).trans ((zt hne).trans (b2.block g hg))⟩,{ V with av:=v2 },?_,⟨kp (by decide) (zW o2 hB),kp (by decide) h2.mem,fun i hi=>kp (by decide) (h2.lev i hi),fun i hi j hj=>kp (by decide) (h2.seg i hi j hj),h2.sz,kp (by decide) h2.wks,fun q hq=>kp (by decide) (h2.lst q hq),h2.run,kp (by decide) h2.tls⟩⟩;rw[e4]
  have:((zR V L).setIfInBounds 6 (.int .i64 ((L.clock:Int)+(k:Int)))).setIfInBounds 7 v2=zR { V with av:=v2 } { L with clock:=L.clock+k }:=by
   rw[show(L.clock:Int)+(k:Int)=((L.clock+k:Nat):Int) by omega];rfl
  rw[this]
 obtain⟨a,ka,hav,_,_⟩:=zu h.all;rw[hav]at c7;clear hb h hn;obtain⟨ck,hck⟩:∃ck:Int,ck=(L.clock:Int):=⟨_,rfl⟩;rw[←hck]at c6 CL FIN
 have hck2:0≤ck∧ck+(k:Int)≤1000000000000:=by omega
 have HCK:=zx hck;clear hck
 go_enter Tryz.func131,Tryz.ntmps131
 go_wp2_with (first|(go_at_call 130;refine CL.out.mono ?_;rintro e W2 ⟨c',v2,rfl,hc',o2,b2⟩;obtain rfl:=hc' (by omega) (by omega);obtain⟨e2,hf⟩:=FIN.out W2 v2 o2 b2;obtain⟨d6,f6⟩:=zy (j:=6) (u:=.int .i64 (L.clock:Int)) e2 rfl;obtain⟨d7,f7⟩:=zy (j:=7) (u:=V.av) e2 rfl;have HF:=zx hf;obtain⟨a2,c2,rfl,_,_⟩:=zu o2;clear o2 b2 hf e2));go_ret;exact⟨rfl,HF.out _ rfl⟩
theorem rnV_eq {r:Option Nat}{i:Nat}:uD r=(i:Int)↔r=some i:=by
 cases r with
 | none=>simp[uD]
 | some j=>simp[uD];omega
theorem de {w:World}{B cb:Nat}{V:Rv}{L:Lg}(hb:w.heap[cb]? = some (Obj.cells (zR V L) 234 (0,0))) (h:w.ownsRow B 304 3 V.wv L.wks.length (yz L.wks V.wl V.rd)) (hls:∀q,q<L.wks.length→w.ownsRow B 3 1 (V.wl q) (L.wks.getD q zo).list.length ((L.wks.getD q zo).list.map iV)) (hw:L.wks.length≤4) (hwl:∀q,q<L.wks.length→(L.wks.getD q zo).list.length≤1000) (i:Nat) (hi:i≤100) :
  Calls Tryz.prog 247 #[zr cb, .int .i64 (i:Int)] w fun e w'=>e=.returned (.bool (wZ L.wks i))∧Below w.heap.size w w':=by
 have c15:=(zy (j:=15) (u:=V.wv) hb rfl).1;obtain⟨aw,cw,hwv,hcw,hcm⟩:=zu h;rw[hwv]at c15 h;have HR:=zx h;have HLS:=zx hls;have HWL:=zx hwl
 have HT:Hid (∀q,q<L.wks.length→xT (L.wks.getD q zo) i=true→wZ L.wks i=true):=fun q hq ht=>by
  unfold wZ;rw[List.any_eq_true];exact⟨_,by rw[←List.getElem_eq_getD (h:=hq)];exact List.getElem_mem hq,ht⟩
 have HF:Hid ((∀q,q<L.wks.length→xT (L.wks.getD q zo) i=false)→wZ L.wks i=false):=fun ha=>by
  unfold wZ;rw[List.any_eq_false];intro k hk;obtain⟨q,hq,rfl⟩:=List.mem_iff_getElem.1 hk;have:=ha q hq;rw[←List.getElem_eq_getD (h:=hq)]at this;simp[this]
 unfold maxLen at hcm;clear hb h hls hwl hwv;generalize hhT:wZ L.wks i=hT at *;generalize hnw:L.wks.length=nw at *;have HNW:=zx hnw;clear hhT hnw
 go_enter Tryz.func247,Tryz.ntmps247
 go_wp2_with fail
 go_loopw [5] (fun x wr=>∃q:Nat,q≤nw∧x=.int .i64 q∧wr=w∧∀p,p<q→xT (L.wks.getD p zo) i=false) (fun x _=>nw-(intOf x).toNat)
 case atStart=>exact⟨0,Nat.zero_le _,rfl,rfl,fun p hp=>absurd hp (Nat.not_lt_zero _)⟩
 case round=>
  obtain⟨q,hqn,rfl,hwr,hno⟩:=hrel;rw[hwr];have HWR:=zx hwr;clear hwr;by_cases hlt:q<nw
  ·obtain⟨g,rfl⟩:=zf HR.out (by omega);obtain⟨r0,r1,r2⟩:=yp (ks:=L.wks) (wl:=V.wl) (rd:=V.rd) (q:=q) (by rw[HNW.out];exact hlt);have k0:=zg HR.out r0;have k1:=zg HR.out r1;have hl0:=HLS.out q hlt;have hll:=HWL.out q hlt;obtain⟨al,cl,hvl,hcl,hcm2⟩:=zu hl0;rw[hvl]at k0 hl0;have HL0:=zx hl0;have HTQ:=zx (HT.out q hlt);have HNO:=zx hno;unfold maxLen at hcm2;clear r0 r1 r2 hno hl0 hvl
   have hin:xT (L.wks.getD q zo) i=(decide ((L.wks.getD q zo).runs=some i) || decide (i∈(L.wks.getD q zo).list)):=by
    unfold xT;simp[eq_comm]
   have HIN:=zx hin;clear hin;generalize hkq:L.wks.getD q zo=kq at *;have HKQ:=zx hkq;clear hkq;generalize hnl:kq.list.length=nl at *;have HNL:=zx hnl;clear hnl;by_cases hr:kq.runs=some i
   ·have hrn:uD kq.runs=(i:Int):=rnV_eq.2 hr;rw[hrn]at k1;have ht:hT=true:=HTQ.out (by rw[HIN.out];simp[hr]);have HTT:=zx ht;clear ht;go_wp2_with fail;go_ret;exact⟨by rw[HTT.out];rfl,Below.refl _ _⟩
   ·have hrn:¬uD kq.runs=(i:Int):=fun e=>hr (rnV_eq.1 e)
    generalize uD kq.runs=rr at *
    have hrn2:(rr == (i:Int))=false:=by simpa using hrn
    go_wp2_with fail
    go_loopw [6] (fun y wr=>∃k:Nat,k≤nl∧y=.int .i64 k∧wr=w∧∀p,p<k→¬kq.list.getD p 0=i) (fun y _=>nl-(intOf y).toNat)
    case atStart=>exact⟨0,Nat.zero_le _,rfl,rfl,fun p hp=>absurd hp (Nat.not_lt_zero _)⟩
    case round=>
     obtain⟨k,hkn,rfl,hwr,hno⟩:=hrel;rw[hwr];have HWR2:=zx hwr;clear hwr;by_cases hlt2:k<nl
     ·obtain⟨gl,rfl⟩:=zf HL0.out (by omega)
      have hgl:kq.list[k]? = some (kq.list.getD k 0):=by rw[List.getElem?_eq_getElem (by rw[HNL.out];exact hlt2),List.getElem_eq_getD 0]
      have k3:=zg HL0.out (show(kq.list.map iV)[k]? = some (iV (kq.list.getD k 0)) by rw[List.getElem?_map,hgl];rfl);have hmem:kq.list.getD k 0∈kq.list:=List.mem_of_getElem? hgl;have HNO2:=zx hno;clear hno hgl;by_cases hx:kq.list.getD k 0=i
      ·have ht:hT=true:=HTQ.out (by rw[HIN.out];rw[hx]at hmem;simp[hmem]);have HTT:=zx ht;clear ht hmem;generalize kq.list.getD k 0=xx at *;subst hx;go_wp2_with fail;go_ret;exact⟨by rw[HTT.out];rfl,Below.refl _ _⟩
      ·have HX:=zx hx;generalize hxx:kq.list.getD k 0=xx at *;have HXX:=zx hxx;clear hxx
       have hx2:((xx:Int) == (i:Int))=false:=by simp;omega
       clear hx hmem;go_wp2_with fail
       go_roundw
       case rel=>exact⟨k+1,by omega,by go_num,trivial,fun p hp=>by
        by_cases e:p=k
        ·subst e;rw[HXX.out];exact HX.out
        ·exact HNO2.out p (by omega)⟩
       case measure=>simp[intOf];omega
     ·obtain rfl:k=nl:=by omega
      have hf:xT kq i=false:=by
       rw[HIN.out];simp only[Bool.or_eq_false_iff,decide_eq_false_iff_not];refine⟨hr,fun hm=>?_⟩;obtain⟨p,hp,he⟩:=List.mem_iff_getElem.1 hm;exact hno p (by rw[←HNL.out];exact hp) (by rw[←List.getElem_eq_getD (h:=hp)];exact he)
      have HF2:=zx hf;clear hf hno;go_wp2_with fail
      go_roundw
      case rel=>exact⟨q+1,by omega,by go_num,trivial,fun p hp=>by
       by_cases e:p=q
       ·subst e;rw[HKQ.out];exact HF2.out
       ·exact HNO.out p (by omega)⟩
      case measure=>simp[intOf];omega
  ·obtain rfl:q=nw:=by omega
   have ht:hT=false:=HF.out (fun p hp=>hno p hp);have HTT:=zx ht;clear ht;go_wp2_with fail;go_ret;exact⟨by rw[HTT.out];rfl,Below.refl _ _⟩
theorem fo {ks:List Wk}{wl:Nat→Value}{rd:Nat→Int}{q:Nat}{k':Wk}{v:Value}(hq:q<ks.length) (hr:k'.runs=(ks.getD q zo).runs):(yz ks wl rd).set (q*3) v=yz (ks.set q k') (fun p=>if p=q then v else wl p) rd:=by
 apply List.ext_getElem?;intro j;by_cases hj:j<ks.length*3
 ·have hp:j / 3<ks.length:=by omega
  obtain⟨a0,a1,a2⟩:=yp (ks:=ks) (wl:=wl) (rd:=rd) hp;obtain⟨b0,b1,b2⟩:=yp (ks:=ks.set q k') (wl:=fun p=>if p=q then v else wl p) (rd:=rd) (q:=j / 3) (by simpa using hp)
  have hg:(if j / 3=q then k'.runs else(ks.getD (j / 3) zo).runs)=((ks.set q k').getD (j / 3) zo).runs:=by
   by_cases e:j / 3=q
   ·subst e;simp[hq]
   ·rw[if_neg e,List.getD_eq_getElem?_getD,List.getD_eq_getElem?_getD,List.getElem?_set_ne (fun h=>e h.symm)]
  have hg2:((ks.set q k').getD (j / 3) zo).runs=(ks.getD (j / 3) zo).runs:=by
   rw[←hg];by_cases e:j / 3=q
   ·rw[if_pos e,hr,e]
   ·rw[if_neg e]
  rcases(show j=j / 3*3∨j=j / 3*3+1∨j=j / 3*3+2 by omega)with e|e|e
  ·by_cases e2:j / 3=q
   ·rw[e,b0,if_pos e2,e2,List.getElem?_set_self (by rw[xW];omega)]
   ·rw[e,b0,if_neg e2,List.getElem?_set_ne (by omega),a0]
  ·rw[e,b1,List.getElem?_set_ne (by omega),a1,hg2]
  ·rw[e,b2,List.getElem?_set_ne (by omega),a2]
 ·rw[List.getElem?_eq_none (by rw[List.length_set,xW];omega),List.getElem?_eq_none (by rw[xW,List.length_set];omega)]
structure DuI (w wr:World) (B:Nat) (V:Rv) (nw:Nat) (wl:Nat→Value) (ks:List Wk):Prop where
 len:ks.length=nw
 row:wr.ownsRow B 304 3 V.wv nw (yz ks wl V.rd)
 lst:∀q,q<nw→wr.ownsRow B 3 1 (wl q) (ks.getD q zo).list.length ((ks.getD q zo).list.map iV)
 dis:∀p q,p<nw→q<nw→p≠q→∀g,some g=(wl p).ownBlock→some g≠(wl q).ownBlock
 new:∀q,q<nw→∀g,some g=(wl q).ownBlock→some g=(V.wl q).ownBlock∨w.heap.size≤g
 tch:Tch (fun g=>some g=V.wv.ownBlock∨∃q,q<nw∧some g=(V.wl q).ownBlock) w wr
theorem DuI.add {w wr W5:World}{B g c:Nat}{V:Rv}{nw:Nat}{wl:Nat→Value}{ks:List Wk}(h:DuI w wr B V nw wl ks) (hg:V.wv=.slice (some ⟨g,0,none⟩) nw c){q x:Nat}(hq:q<nw) {v5:Value}
  (g5:(wr.alloc (Obj.cells #[iV x] 3)).grownBy W5 (wl q).ownBlock) (o5:W5.ownsRow B 3 1 v5 ((ks.getD q zo).list.length+1) ((ks.getD q zo).list.map iV++[iV x])) (n5:v5.ownBlock=(wl q).ownBlock∨v5.ownBlock=some (wr.alloc (Obj.cells #[iV x] 3)).heap.size) :
  (W5.cell? ⟨g,q*3,none⟩=some (wl q)∧W5.frozen? ⟨g,q*3,none⟩=false)∧DuI w (W5.setCell ⟨g,q*3,none⟩ v5) B V nw (fun p=>if p=q then v5 else wl p) (ks.set q ⟨(ks.getD q zo).list++[x],(ks.getD q zo).runs,(ks.getD q zo).read⟩):=by
 have b1:=zv wr (Obj.cells #[iV x] 3)
 have hs1:(wr.alloc (Obj.cells #[iV x] 3)).heap.size=wr.heap.size+1:=by simp
 have hrow:=h.row;rw[hg]at hrow
 have blk:∀k,k<wr.heap.size→some k≠(wl q).ownBlock→W5.heap[k]? = wr.heap[k]? := fun k hk hn=>(g5.block k (by rw[hs1];omega) hn).trans (b1.block k hk)
 have hgb:=zw hrow (g:=g) rfl
 have hgq:some g≠(wl q).ownBlock:=fun e=>by
  obtain⟨_,_,D,hD⟩:=zw (h.lst q hq) e;obtain⟨_,_,D',hD'⟩:=hgb;exact absurd (zc hD' hD) (by decide)
 have row5:W5.ownsRow B 304 3 (.slice (some ⟨g,0,none⟩) nw c) nw (yz ks wl V.rd):=zn hrow (fun k hk=>by
  injection hk with hk
  subst hk
  exact blk k hgb.2.1 hgq)
 have lst5:∀p,p<nw→p≠q→W5.ownsRow B 3 1 (wl p) (ks.getD p zo).list.length ((ks.getD p zo).list.map iV):=fun p hp hne=>zn (h.lst p hp) (fun k hk=>blk k (zw (h.lst p hp) hk).2.1 (h.dis p q hp hq hne k hk))
 have hg5:∃C,W5.heap[g]? = some (Obj.cells C 304 (0,0)):=by
  obtain⟨_,_,C,hC⟩:=zw row5 (g:=g) rfl;exact⟨C,hC⟩
 obtain⟨C5,hC5⟩:=hg5
 have kp:∀ {B:Nat}{e:TypeId}{sz:Nat}{v:Value}{m:Nat}{xs:List Value},304≠e→W5.ownsRow B e sz v m xs→(W5.setCell ⟨g,q*3,none⟩ v5).ownsRow B e sz v m xs:=fun he ho=>zl ho hC5 he
 have hlen:=h.len;obtain⟨a0,_,_⟩:=yp (ks:=ks) (wl:=wl) (rd:=V.rd) (q:=q) (by omega)
 have new5:∀k,some k=v5.ownBlock→some k=(wl q).ownBlock∨wr.heap.size≤k:=fun k hk=>by
  rcases n5 with e|e
  ·rw[e]at hk;exact Or.inl hk
  ·rw[e]at hk
   injection hk with hk
   right;rw[hk,hs1];omega
 refine⟨⟨zg row5 a0,(zC row5 (j:=q*3) (by obtain⟨_,_,e,h1,_⟩:=zu row5;injection e with _ _ e;subst e;omega)).2⟩,by simpa using hlen,?_,fun p hp=>?_,fun p r hp hr hne k hk=>?_,fun p hp k hk=>?_,?_⟩
 ·rw[hg];have:=zF (i:=q*3) (y:=v5) row5 (by omega)
  rwa [fo (k':=⟨(ks.getD q zo).list++[x],(ks.getD q zo).runs,(ks.getD q zo).read⟩) (by omega) rfl]at this
 ·by_cases e:p=q
  ·subst e;simp only[if_pos]
   have hgd:((ks.set p ⟨(ks.getD p zo).list++[x],(ks.getD p zo).runs,(ks.getD p zo).read⟩).getD p zo).list=(ks.getD p zo).list++[x]:=by
    rw[List.getD_eq_getElem?_getD,List.getElem?_set_self (by omega)];rfl
   rw[hgd];refine kp (by decide) ?_
   simpa using o5
  ·simp only[if_neg e]
   have hgd:(ks.set q ⟨(ks.getD q zo).list++[x],(ks.getD q zo).runs,(ks.getD q zo).read⟩).getD p zo=ks.getD p zo:=by
    rw[List.getD_eq_getElem?_getD,List.getElem?_set_ne (fun h=>e h.symm),List.getD_eq_getElem?_getD]
   rw[hgd];exact kp (by decide) (lst5 p hp e)
 ·by_cases ep:p=q
  ·subst ep;simp only[if_pos,if_neg (show r≠p from fun h=>hne h.symm)]at hk ⊢;intro hq2
   rcases new5 k hk with e|e
   ·exact h.dis p r hp hr hne k e hq2
   ·have:=(zw (h.lst r hr) hq2).2.1;omega
  ·by_cases er:r=q
   ·subst er;simp only[if_pos,if_neg ep]at hk ⊢;intro hq2
    rcases new5 k hq2 with e|e
    ·exact h.dis p r hp hr hne k hk e
    ·have:=(zw (h.lst p hp) hk).2.1;omega
   ·simp only[if_neg ep,if_neg er]at hk ⊢;exact h.dis p r hp hr hne k hk
 ·by_cases ep:p=q
  ·subst ep;simp only[if_pos]at hk
   rcases new5 k hk with e|e
   ·exact h.new p hp k e
   ·exact Or.inr (Nat.le_trans h.tch.size e)
  ·simp only[if_neg ep]at hk;exact h.new p hp k hk
 ·refine⟨g5.os.trans (b1.os.trans h.tch.os),g5.tape.trans (b1.tape.trans h.tch.tape),g5.output.trans (b1.output.trans h.tch.output),?_,fun k hk hn=>?_⟩
  ·have h1:=h.tch.size;have h2:=g5.size;rw[hs1]at h2;simp;omega
  ·have hkg:k≠g:=fun e=>hn (Or.inl (by rw[hg,e];rfl))
   rw[zt hkg];have hkw:k<wr.heap.size:=Nat.lt_of_lt_of_le hk h.tch.size
   have hne:some k≠(wl q).ownBlock:=fun e=>by
    rcases h.new q hq k e with e|e
    ·exact hn (Or.inr ⟨q,hq,e⟩)
    ·omega
   rw[blk k hkw hne];exact h.tch.block k hk hn
theorem DuI.below {w wr W:World}{B:Nat}{V:Rv}{nw:Nat}{wl:Nat→Value}{ks:List Wk}(h:DuI w wr B V nw wl ks) (hb:Below wr.heap.size wr W):DuI w W B V nw wl ks:=
 ⟨h.len,zq h.row hb,fun q hq=>zq (h.lst q hq) hb,h.dis,h.new,h.tch.trans (zH (S:=fun _=>False) hb) (fun _ _ q=>q.elim)⟩
theorem sO {V V':Rv}{L L':Lg}(h1:V'.av=V.av) (h2:V'.mv=V.mv) (h3:V'.lv=V.lv) (h4:V'.wv=V.wv) (h5:V'.tv=V.tv) (e1:L'.memory=L.memory) (e2:L'.fan=L.fan) (e3:L'.back=L.back) (e4:L'.wks.length=L.wks.length) (e5:L'.keep=L.keep) (e6:L'.batch=L.batch) (e7:L'.clock=L.clock) (e8:L'.subs=L.subs):zR V' L'=zR V L:=by
 unfold zR;rw[h1,h2,h3,h4,h5,e1,e2,e3,e4,e5,e6,e7,e8]
theorem jW {w:World}{B cb:Nat}{V:Rv}{L:Lg}(hb:w.heap[cb]? = some (Obj.cells (zR V L) 234 (0,0))) (hd:DuI w w B V L.wks.length V.wl L.wks) (hlv:∀i,i<6→∃a c,V.lv i=.slice a (L.lev i).length c∧(L.lev i).length≤4194304) (_hfan:L.fan≤1000) (hw:0<L.wks.length∧L.wks.length≤4) (hB:B≤w.heap.size) (hnd:∀q,q<L.wks.length→(L.wks.getD q zo).list.length≤900) :
  Calls Tryz.prog 204 #[zr cb] w fun e w'=>e=.returned (.tuple #[])∧∃wl',DuI w w' B V L.wks.length wl' (zO L.fan (fun i=>(L.lev i).length) L.wks 5):=by
 obtain⟨u0,hu0,hv0,hv1,hv2⟩:=info_parts Tryz.infoI;have HB:=zx hb;have HD:=zx hd;have HLV:=zx hlv;have hcb:cb<w.heap.size:=(Mth.gI hb)
 have FB:Hid (∀wr wl ks,DuI w wr B V L.wks.length wl ks→wr.heap[cb]? = some (Obj.cells (zR V L) 234 (0,0))):=by
  intro wr wl ks h;refine(h.tch.block cb hcb (fun q=>?_)).trans HB.out
  rcases q with q|⟨p,hp,q⟩
  ·exact xM HD.out.row HB.out (by decide) q
  ·exact xM (HD.out.lst p hp) HB.out (by decide) q
 have FL:Hid (∀k,k≤5→∀q,q<L.wks.length→((zO L.fan (fun i=>(L.lev i).length) L.wks k).getD q zo).list.length≤(L.wks.getD q zo).list.length+k):=by
  intro k
  induction k with
  | zero=>intro _ q hq;simp[zO]
  | succ k ih=>
   intro hk q hq;have i1:=ih (by omega) q hq;rw[zO];generalize hks:zO L.fan (fun i=>(L.lev i).length) L.wks k=ks at *
   have hl:ks.length=L.wks.length:=by rw[←hks];exact yh _ _ _ _
   unfold yf;split
   ·by_cases e:k % ks.length=q
    ·rw[e,List.getD_eq_getElem?_getD,List.getElem?_set_self (by omega)];simp only[Option.getD_some,List.length_append,List.length_cons,List.length_nil];omega
    ·rw[List.getD_eq_getElem?_getD,List.getElem?_set_ne e,←List.getD_eq_getElem?_getD];omega
   ·omega
 have HND:=zx hnd;clear hb hd hlv hnd
 go_enter Tryz.func204,Tryz.ntmps204
 go_wp2_with fail
 go_loopw [2] (fun i wr=>∃k:Nat,k≤5∧i=.int .i64 k∧∃wl,DuI w wr B V L.wks.length wl (zO L.fan (fun i=>(L.lev i).length) L.wks k)) (fun i _=>5-(intOf i).toNat)
 case atStart=>exact⟨0,by omega,rfl,_,HD.out⟩
 case round=>
  obtain⟨k,hk,rfl,wl,hL⟩:=hrel;by_cases hlt:k<5
  ·have hbr:=FB.out _ _ _ hL;have hfl:=FL.out k (by omega);generalize hks:zO L.fan (fun i=>(L.lev i).length) L.wks k=ks at *
   have HNX:Hid (zO L.fan (fun i=>(L.lev i).length) L.wks (k+1)=yf L.fan (fun i=>(L.lev i).length) ks k):=by show _=_;rw[zO,hks]
   have hkl:ks.length=L.wks.length:=hL.len
   have hbr2:wr.heap[cb]? = some (Obj.cells (zR { V with wl:=wl } { L with wks:=ks }) 234 (0,0)):=by
    rw[hbr];exact congrArg (fun C=>some (Obj.cells C 234 (0,0))) (sO (V:={ V with wl:=wl }) (V':=V) (L:={ L with wks:=ks }) (L':=L) rfl rfl rfl rfl rfl rfl rfl rfl hkl.symm rfl rfl rfl rfl)
   have hwl2:∀q,q<ks.length→(ks.getD q zo).list.length≤1000:=fun q hq=>by
    have h1:=hfl q (by rw[←hkl];exact hq);have h2:=HND.out q (by rw[←hkl];exact hq);omega
   have CH:=zx (de (V:={ V with wl:=wl }) (L:={ L with wks:=ks }) (B:=B) hbr2 (by show wr.ownsRow B _ 3 V.wv ks.length (yz ks wl V.rd);rw[hkl];exact hL.row) (fun q hq=>hL.lst q (by rw[←hkl];exact hq)) (by show ks.length≤4;omega) hwl2 k (by omega));obtain⟨al,cl,hlk,hln⟩:=HLV.out k (by omega)
   have HC:Hid (∀W,Below wr.heap.size wr W→W.cell? ⟨cb,9+k,none⟩=some (.slice al (L.lev k).length cl)∧W.cell? ⟨cb,1,none⟩=some (.int .i64 (L.fan:Int))∧W.cell? ⟨cb,3,none⟩=some (.int .i64 (L.wks.length:Int))∧W.cell? ⟨cb,15,none⟩=some V.wv):=by
    intro W hW;have hbw:=(hW.block cb (Mth.gI hbr)).trans hbr;refine⟨?_,(zy (j:=1) hbw rfl).1,(zy (j:=3) hbw rfl).1,(zy (j:=15) hbw rfl).1⟩;have:=(zy hbw (xE V L (show k<6 by omega))).1;rw[hlk]at this;exact this
   have HL:=zx hL;have HKL:=zx hkl;have HFL:=zx hfl;change Hid (Calls _ _ _ _ fun e w'=>e=.returned (.bool (wZ ks k))∧_)at CH;generalize hht:wZ ks k=ht at *;have HHT:=zx hht;clear hL hbr hbr2 hlk hks hkl hfl hht hwl2;generalize hnk:(L.lev k).length=nk at *;have HNK:=zx hnk;clear hnk;by_cases hf:L.fan≤nk
   ·have hd2:decide ((L.fan:Int)≤(nk:Int))=true:=decide_eq_true (by omega);cases ht
    ·have HON:Hid (yf L.fan (fun i=>(L.lev i).length) ks k=ks.set (k % ks.length) ⟨(ks.getD (k % ks.length) zo).list++[k],(ks.getD (k % ks.length) zo).runs,(ks.getD (k % ks.length) zo).read⟩):=by
      show _=_;unfold yf;rw[if_pos ⟨by show L.fan≤(L.lev k).length;rw[HNK.out];exact hf,HHT.out⟩]
     have hrem:(k:Int) % (L.wks.length:Int)=((k % L.wks.length:Nat):Int):=by omega
     have hq:k % L.wks.length<L.wks.length:=Nat.mod_lt _ hw.1;rw[HKL.out]at HON;generalize hqq:k % L.wks.length=q at *;have HQQ:=zx hqq;clear hqq;generalize hnw:L.wks.length=nw at *;have HNW:=zx hnw;clear hnw
     go_upto_region 4 with(first|(go_at_call 247;refine CH.out.mono ?_;rintro e W2 ⟨rfl,hb2⟩;have HB2:=zx hb2;obtain⟨m0,m1,m2,m3⟩:=HC.out W2 hb2;clear hb2))
     have e8:=cell_regrown m0;have e1:=cell_regrown m1;refine wp_region_quiet_below (by kernel_rfl) (by kernel_rfl) ?_
     repeat(go_big_quiet_step (fail))
     refine wpQuiet_nil ?_;intro _ hw';obtain⟨⟨dq,osq⟩,hw''⟩:=hw';subst hw'';have hb3:Below wr.heap.size wr (Sort.grow (redrawn W2 dq) osq):=HB2.out.trans ((below_regrown W2 dq osq).mono HB2.out.size);generalize Sort.grow (redrawn W2 dq) osq=w3 at *;clear e8 e1 m0 m1 m2 m3;obtain⟨m0,m1,m2,m3⟩:=HC.out w3 hb3;have hL3:=HL.out.below hb3;obtain⟨aw,cw,hwv,hcw,hcm⟩:=zu hL3.row;have hrow3:=hL3.row;rw[hwv]at hrow3 m3;obtain⟨g,rfl⟩:=zf hrow3 (by omega);obtain⟨r0,_,_⟩:=yp (ks:=ks) (wl:=wl) (rd:=V.rd) (q:=q) (by rw[HKL.out];exact hq);have k0:=zg hrow3 r0;have hol:=hL3.lst q hq;obtain⟨al2,cl2,hvl,hcl,hcm2⟩:=zu hol;have HOL:=zx hol;have hflq:=HFL.out q hq;have hndq:=HND.out q hq;have hszw:B≤w3.heap.size:=Nat.le_trans hB (Nat.le_trans HL.out.tch.size hb3.size)
     have FN:Hid (∀W5 v5,(w3.alloc (Obj.cells #[iV k] 3)).grownBy W5 (wl q).ownBlock→W5.ownsRow B 3 1 v5 ((ks.getD q zo).list.length+1) ((ks.getD q zo).list.map iV++[iV k])→(v5.ownBlock=(wl q).ownBlock∨v5.ownBlock=some (w3.alloc (Obj.cells #[iV k] 3)).heap.size)→(W5.cell? ⟨cb,15,none⟩=some (.slice (some ⟨g,0,none⟩) nw cw)∧W5.cell? ⟨g,q*3,none⟩=some (wl q)∧W5.frozen? ⟨g,q*3,none⟩=false)∧∃wl',DuI w (W5.setCell ⟨g,q*3,none⟩ v5) B V nw wl' (zO L.fan (fun i=>(L.lev i).length) L.wks (k+1))):=by
      intro W5 v5 g5 o5 n5;obtain⟨h1,h2⟩:=hL3.add hwv hq g5 o5 n5;have hbc:=FB.out w3 wl ks hL3;have hb5:W5.heap[cb]? = some (Obj.cells (zR V L) 234 (0,0)):=(g5.block cb (by have:=(Mth.gI hbc);simp;omega) (xM (hL3.lst q hq) hbc (by decide))).trans (((zv w3 _).block cb (Mth.gI hbc)).trans hbc);have hc15:=(zy (j:=15) (u:=V.wv) hb5 rfl).1;rw[hwv]at hc15;refine⟨⟨hc15,h1⟩,fun p=>if p=q then v5 else wl p,?_⟩;rw[HNX.out,HON.out];exact h2
     unfold maxLen at hcm hcm2;clear hL3 hrow3 r0 hol hwv HON HNX;generalize (ks.getD q zo).list.map iV=xl at *;generalize (ks.getD q zo).list.length=nl at *;generalize wl q=vl at *;subst hvl;generalize hkk:zO L.fan (fun i=>(L.lev i).length) L.wks (k+1)=kk at *;have HKK:=zx hkk;clear hkk;have b3:=zv w3 (Obj.cells #[.int .i64 (k:Int)] 3);have k0':=(b3.cell (p:=⟨g,q*3,none⟩) (World.block_lt_of_cell? _ _ k0)).trans k0;have m3':=(b3.cell (p:=⟨cb,15,none⟩) (World.block_lt_of_cell? _ _ m3)).trans m3;clear b3
     go_upto_region 6 with fail
     go_region_law (refine zQ _ rfl _ _ 149 rfl B 3 u0 (.int .i64 0) 1 8 Tryz.underlying149 hu0 hv0 hv1 hv2 rfl (by decide) _ _ _ rfl (by exact HOL.out.alloc _) ⟨w3.heap.size,0,none⟩ 1 1 [iV k] rfl rfl (by exact zM w3.drew _ _ _ rfl) (by intro u hu;simp at hu;subst hu;rfl) (by unfold maxLen;omega) (by omega) (by simp;omega) ?_;intro v5 W5 o5 g5 n5;have g6:(w3.alloc (Obj.cells #[iV k] 3)).grownBy W5 (Value.slice al2 nl cl2).ownBlock:=⟨g5.os,g5.tape,g5.output,g5.size,g5.block⟩;obtain⟨⟨fa,fb,ff⟩,hla⟩:=FN.out W5 v5 g6 o5 n5;have HLA:=zx hla;obtain⟨a5,c5,rfl,_,_⟩:=zu o5;clear o5 g5 g6 n5 hla)
     all_goals (
      go_wp2
      go_roundw
      case rel=>obtain⟨wl',h'⟩:=HLA.out;exact⟨k+1,by omega,by go_num,wl',by rw[HKK.out];exact h'⟩
      case measure=>simp[intOf];omega)
    ·have HNO:Hid (zO L.fan (fun i=>(L.lev i).length) L.wks (k+1)=ks):=by show _=_;rw[HNX.out,vL (Or.inr HHT.out)]
     go_upto_region 4 with(first|(go_at_call 247;refine CH.out.mono ?_;rintro e W2 ⟨rfl,hb2⟩;have HB2:=zx hb2;obtain⟨m0,m1,m2,m3⟩:=HC.out W2 hb2;clear hb2))
     have e8:=cell_regrown m0;have e1:=cell_regrown m1;refine wp_region_quiet_below (by kernel_rfl) (by kernel_rfl) ?_
     repeat(go_big_quiet_step (fail))
     refine wpQuiet_nil ?_;intro _ hw';obtain⟨⟨dq,osq⟩,hw''⟩:=hw';subst hw'';have hb3:Below wr.heap.size wr (Sort.grow (redrawn W2 dq) osq):=HB2.out.trans ((below_regrown W2 dq osq).mono HB2.out.size);generalize Sort.grow (redrawn W2 dq) osq=w3 at *;clear e8 e1 m0 m1 m2 m3;have HL3:=zx (HL.out.below hb3);clear hb3;go_wp2
     go_roundw
     case rel=>exact⟨k+1,by omega,by go_num,wl,by rw[HNO.out];exact HL3.out⟩
     case measure=>simp[intOf];omega
   ·have hd2:decide ((L.fan:Int)≤(nk:Int))=false:=decide_eq_false (by omega)
    have HNO:Hid (zO L.fan (fun i=>(L.lev i).length) L.wks (k+1)=ks):=by show _=_;rw[HNX.out,vL (Or.inl (by show ¬L.fan≤(L.lev k).length;rw[HNK.out];exact hf))]
    go_upto_region 4 with(first|(go_at_call 247;refine CH.out.mono ?_;rintro e W2 ⟨rfl,hb2⟩;have HB2:=zx hb2;obtain⟨m0,m1,m2,m3⟩:=HC.out W2 hb2;clear hb2))
    have e8:=cell_regrown m0;have e1:=cell_regrown m1;refine wp_region_quiet_below (by kernel_rfl) (by kernel_rfl) ?_
    repeat(go_big_quiet_step (fail))
    refine wpQuiet_nil ?_;intro _ hw';obtain⟨⟨dq,osq⟩,hw''⟩:=hw';subst hw'';have hb3:Below wr.heap.size wr (Sort.grow (redrawn W2 dq) osq):=HB2.out.trans ((below_regrown W2 dq osq).mono HB2.out.size);generalize Sort.grow (redrawn W2 dq) osq=w3 at *;clear e8 e1 m0 m1 m2 m3;have HL3:=zx (HL.out.below hb3);clear hb3;go_wp2
    go_roundw
    case rel=>exact⟨k+1,by omega,by go_num,wl,by rw[HNO.out];exact HL3.out⟩
    case measure=>simp[intOf];omega
  ·have hke:k=5:=by omega
   subst hke;have HLL:=zx hL;clear hL;go_wp2_with fail;go_end0;exact⟨rfl,_,HLL.out⟩
end Go.Proofs.YtkncboinfcnklaaGreatDoor.Rl
