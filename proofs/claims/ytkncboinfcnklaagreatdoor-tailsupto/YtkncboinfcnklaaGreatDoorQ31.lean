import Derived.Test.YtkncboinfcnklaaGreatDoorQ30
import Derived.Deep.RegionHeld3
set_option maxRecDepth 100000
set_option maxHeartbeats 8000000
namespace Go.Proofs.YtkncboinfcnklaaGreatDoor.Lw
open Go.RowKit Go.Deep Go.Shelf Go.Proofs.YtkncboinfcnklaaGreatDoor.Mth Go.Proofs.YtkncboinfcnklaaGreatDoor.Rl
structure Cf where
 m:Int
 f:Int
 b:Int
 n:Int
 k:Int
 t:Int
def mI:Cf:=⟨0,0,0,0,0,0⟩
abbrev cfA (c:Cf):Array Value:=#[.int .i64 c.m, .int .i64 c.f, .int .i64 c.b, .int .i64 c.n, .int .i64 c.k, .int .i64 c.t]
def RdC (w:World) (v:Value) (l:List Cf):Prop:=
 ∃(a:Option Addr) (c:Nat),v=.slice a l.length c∧l.length≤c∧c≤maxLen∧(l=[]∨∃b o,a=some ⟨b,o,none⟩∧∀j,j<l.length→w.cell? ⟨b,o+j*6,none⟩=some (.int .i64 (l.getD j mI).m)∧w.cell? ⟨b,o+j*6+1,none⟩=some (.int .i64 (l.getD j mI).f)∧w.cell? ⟨b,o+j*6+2,none⟩=some (.int .i64 (l.getD j mI).b)∧w.cell? ⟨b,o+j*6+3,none⟩=some (.int .i64 (l.getD j mI).n)∧w.cell? ⟨b,o+j*6+4,none⟩=some (.int .i64 (l.getD j mI).k)∧w.cell? ⟨b,o+j*6+5,none⟩=some (.int .i64 (l.getD j mI).t))
theorem RdC.below {w w':World}{v:Value}{l:List Cf}(h:RdC w v l) (hb:Below w.heap.size w w'):RdC w' v l:=by
 obtain⟨a,c,rfl,hc,hm,h⟩:=h;refine⟨a,c,rfl,hc,hm,?_⟩
 rcases h with h|⟨b,o,rfl,h⟩
 ·exact Or.inl h
 ·refine Or.inr ⟨b,o,rfl,fun j hj=>?_⟩
  have hc:∀ {k:Nat}{u:Value},w.cell? ⟨b,k,none⟩=some u→w'.cell? ⟨b,k,none⟩=some u:=fun {k u} q=>(hb.cell (p:=⟨b,k,none⟩) (World.block_lt_of_cell? _ _ q)).trans q
  obtain⟨c0,c1,c2,c3,c4,c5⟩:=h j hj;exact⟨hc c0,hc c1,hc c2,hc c3,hc c4,hc c5⟩
theorem gK {w:World}{a:Option Addr}{n c:Nat}{l:List Cf}(h:RdC w (.slice a n c) l) (j:Nat) (hj:j<l.length):∃b o,a=some ⟨b,o,none⟩∧b<w.heap.size∧w.cell? ⟨b,o+j*6,none⟩=some (.int .i64 (l.getD j mI).m)∧w.cell? ⟨b,o+j*6+1,none⟩=some (.int .i64 (l.getD j mI).f)∧w.cell? ⟨b,o+j*6+2,none⟩=some (.int .i64 (l.getD j mI).b)∧w.cell? ⟨b,o+j*6+3,none⟩=some (.int .i64 (l.getD j mI).n)∧w.cell? ⟨b,o+j*6+4,none⟩=some (.int .i64 (l.getD j mI).k)∧w.cell? ⟨b,o+j*6+5,none⟩=some (.int .i64 (l.getD j mI).t):=by
 obtain⟨a',c',e,_,_,h⟩:=h
 injection e with e1 e2 e3
 rcases h with h|⟨b,o,e4,h⟩
 ·subst h;simp at hj
 ·exact⟨b,o,e1.trans e4,World.block_lt_of_cell? _ _ (h j hj).1,h j hj⟩
theorem iY {w:World}{wb:Nat}{C:Array Value}(hblk:w.heap[wb]? = some (Obj.cells C 91 (0,0))) (a:Option Addr) (c:Nat) (h3:C[3]? = some (.slice a 0 c)) (o:Opr) :
  Calls Tryz.prog 66 #[zr wb,oV o] w fun e w'=>e=.returned (.bool true)∧Below w.heap.size w w':=by
 obtain⟨k,A,B,C',S,T⟩:=o;simp only[oV];have HB:=zx (zv w (Obj.cells #[.int .i64 k, .int .i64 A, .int .i64 B, .int .i64 C', .string S, .string T] 94));have d3:=(zy ((HB.out.block wb (Mth.gI hblk)).trans hblk) h3).1;clear hblk h3
 go_enter Tryz.func66,Tryz.ntmps66
 go_wp2;go_ret;exact⟨rfl,HB.out⟩
theorem eA {w:World}{wb:Nat}{C:Array Value}(hblk:w.heap[wb]? = some (Obj.cells C 91 (0,0))){g3:Value}(h3:C[3]? = some g3){Cs:List Cf}(hG:RdC w g3 Cs) (hl:0<Cs.length) (hl2:Cs.length≤1048576) (A B C':Int) (S T:ByteArray) (hA:-9223372036854775808≤A∧A<9223372036854775808) :
  Calls Tryz.prog 66 #[zr wb,oV ⟨11,A,B,C',S,T⟩] w fun e w'=>e=.returned (.bool true)∧Below w.heap.size w w':=by
 simp only[oV];obtain⟨W0,hW0⟩:∃W0,W0=w.alloc (Obj.cells #[.int .i64 11, .int .i64 A, .int .i64 B, .int .i64 C', .string S, .string T] 94):=⟨_,rfl⟩
 have b0:Below w.heap.size w W0:=by rw[hW0];exact zv _ _
 have k0:W0.heap[w.heap.size]? = some (Obj.cells #[.int .i64 11, .int .i64 A, .int .i64 B, .int .i64 C', .string S, .string T] 94 (0,0)):=by rw[hW0];exact zj _ _ _
 have hG0:=hG.below b0;obtain⟨ga,gc,rfl,hgc,hgm,hGx⟩:=hG;clear hGx;unfold maxLen at hgm;have d3:=(zy ((b0.block wb (Mth.gI hblk)).trans hblk) h3).1;have dA:=(zy (j:=1) (u:=.int .i64 A) k0 rfl).1;have d0:=(zy (j:=0) (u:=.int .i64 11) k0 rfl).1;obtain⟨r,hr0,hr1,hpk⟩:=sK A (Cs.length:Int) hA.1 hA.2 (by omega) (by omega);obtain⟨i,rfl⟩:=Int.eq_ofNat_of_zero_le hr0
 have hi:i<Cs.length:=by omega
 obtain⟨cb,co,rfl,hcb,e0,e1,e2,e3,e4,e5⟩:=gK hG0 i hi;generalize Cs.getD i mI=cf at *;obtain⟨cm,cf,cbk,cn,ck,ct⟩:=cf;simp only at e0 e1 e2 e3 e4 e5;generalize hCn:Cs.length=nC at *;have HPK:=zx hpk;have HW:=zx hW0;have HB0:=zx b0;have hnw:w.heap.size<W0.heap.size:=(Mth.gI k0)
 have hwb:wb<W0.heap.size:=by have:=World.block_lt_of_cell? _ _ d3;exact this
 generalize hob:w.heap.size=ob at *;have HOB:=zx hob;clear hblk h3 hG0 hCn hpk hW0 hob b0 k0
 go_enter Tryz.func66,Tryz.ntmps66
 go_upto_region 1 with fail
 rw[HOB.out,←HW.out]
 go_upto_region 3 with fail
 go_cut [5] from 14 (fun v wq=>∃q,v=zr q∧wq.heap[q]? = some (Obj.cells #[.int .i64 cm, .int .i64 cf, .int .i64 cbk, .int .i64 cn, .int .i64 ck, .int .i64 ct] 56 (0,0))∧Below W0.heap.size W0 wq)
 case first=>
  have n1:W0.heap.size≠wb:=by omega
  have n2:W0.heap.size≠ob:=by omega
  have n3:W0.heap.size≠cb:=by omega
  have HM1:Hid ((W0.alloc (Obj.cells #[.int .i64 cm, .int .i64 cf, .int .i64 cbk, .int .i64 cn, .int .i64 ck, .int .i64 ct] 56)).drew.heap[W0.heap.size]? = some (Obj.cells #[.int .i64 cm, .int .i64 cf, .int .i64 cbk, .int .i64 cn, .int .i64 ck, .int .i64 ct] 56 (0,0))):=zj W0 #[.int .i64 cm, .int .i64 cf, .int .i64 cbk, .int .i64 cn, .int .i64 ck, .int .i64 ct] 56;have HM2:Hid (Below W0.heap.size W0 (W0.alloc (Obj.cells #[.int .i64 cm, .int .i64 cf, .int .i64 cbk, .int .i64 cn, .int .i64 ck, .int .i64 ct] 56)).drew):=(zv W0 _).trans ((zE _).mono (by simp))
  go_region_held3 (fun w'=>w'.cell? ⟨wb,3,none⟩=some (.slice (some ⟨cb,co,none⟩) nC gc)∧w'.cell? ⟨ob,1,none⟩=some (.int .i64 A)∧w'.cell? ⟨cb,co+i*6,none⟩=some (.int .i64 cm)∧w'.cell? ⟨cb,co+i*6+1,none⟩=some (.int .i64 cf)∧w'.cell? ⟨cb,co+i*6+2,none⟩=some (.int .i64 cbk)∧w'.cell? ⟨cb,co+i*6+3,none⟩=some (.int .i64 cn)∧w'.cell? ⟨cb,co+i*6+4,none⟩=some (.int .i64 ck)∧w'.cell? ⟨cb,co+i*6+5,none⟩=some (.int .i64 ct)) (go_keep) (first|(go_at_call 15;refine(HPK.out _).mono ?_;rintro e W ⟨rfl,hW⟩;rw[hW];clear hW W))
  all_goals (go_wp2_with fail;go_meet;exact⟨_,rfl,HM1.out,HM2.out⟩)
 case rest=>
  obtain⟨q,rfl,hq,hbq⟩:=hcut;have o0:=(hbq.cell (p:=⟨ob,0,none⟩) hnw).trans d0;obtain⟨x0,_⟩:=zy (j:=0) (u:=.int .i64 cm) hq rfl;obtain⟨x1,_⟩:=zy (j:=1) (u:=.int .i64 cf) hq rfl;obtain⟨x2,_⟩:=zy (j:=2) (u:=.int .i64 cbk) hq rfl;obtain⟨x3,_⟩:=zy (j:=3) (u:=.int .i64 cn) hq rfl;obtain⟨x4,_⟩:=zy (j:=4) (u:=.int .i64 ck) hq rfl;obtain⟨x5,_⟩:=zy (j:=5) (u:=.int .i64 ct) hq rfl;have HBQ:=zx hbq;have CN:=zx (lO (w:=wc) cm cf cbk cn ck ct);clear hbq hq e0 e1 e2 e3 e4 e5 d3 dA d0
  go_wp2_with (first
   | (go_at_call 85;refine CN.out.mono ?_;rintro e W ⟨rfl,hW⟩;have HBW:=zx hW;clear hW))
  go_ret;refine⟨rfl,?_⟩;have h1:=HB0.out.size;exact HB0.out.trans ((HBQ.out.mono (by omega)).trans (HBW.out.mono (by have:=HBQ.out.size;omega)))
end Go.Proofs.YtkncboinfcnklaaGreatDoor.Lw
namespace Go.Proofs.YtkncboinfcnklaaGreatDoor.Lw
open Go.RowKit Go.Deep Go.Shelf Go.Proofs.YtkncboinfcnklaaGreatDoor.Mth Go.Proofs.YtkncboinfcnklaaGreatDoor.Rl
def ldS (p:Value):Sem Value:=Instr.loadAt 234 p
theorem aJ (p:Value):Instr.loadAt 234 p=ldS p:=rfl
structure SSH (h:Array Obj) (lq q:Nat) (C9 c6:Array Value):Prop where
 l:h[lq]? = some (Obj.cells C9 234 (0,0))
 c:h[q]? = some (Obj.cells c6 56 (0,0))
theorem SSH.same {h h':Array Obj}{lq q:Nat}{C9 c6:Array Value}(s:SSH h lq q C9 c6) (e:∀g,(g=lq∨g=q)→h'[g]? = h[g]?):SSH h' lq q C9 c6:=⟨(e lq (Or.inl rfl)).trans s.l,(e q (Or.inr rfl)).trans s.c⟩
theorem SSH.al {h:Array Obj}{lq q:Nat}{C9 c6:Array Value}(s:SSH h lq q C9 c6) (o:Obj):SSH (h.push o) lq q C9 c6:=s.same fun g hg=>by
 have h1:=(Array.getElem?_eq_some_iff.1 s.l).1;have h2:=(Array.getElem?_eq_some_iff.1 s.c).1;rw[Array.getElem?_push,if_neg]
 rcases hg with rfl|rfl <;> omega
theorem TabB.belowB {B:Nat}{w w':World}(h:TabB B w) (hb:Below B w w'):TabB B w':=fun w2 h2=>h w2 (hb.trans h2)
theorem cL {w:World}{B:Nat}{m f bk n kp bt:Nat}{av wv:Value}{x1 x2:List Value}{n1 n2:Nat}{e1 e2:TypeId}{s1 s2:Nat}(h1:w.ownsRow B e1 s1 av n1 x1) (h2:w.ownsRow B e2 s2 wv n2 x2):(mP m f bk n kp bt av wv).all (·.oneCell')=true:=by
 obtain⟨a1,c1,rfl,_,_⟩:=zu h1;obtain⟨a2,c2,rfl,_,_⟩:=zu h2;unfold mP;simp[Value.oneCell']
theorem Tryz.infoPH:(Tryz.prog.info? 152).map (fun i=>(i.zero,i.size,i.bytes))=some (some (.pointer none),1,8):=by kernel_rfl
structure MdY (w w':World) (wb:Nat) (C:Array Value) (hv:Value) (xs:List Value) (nh B:Nat) (m f bk n kp bt:Nat):Prop where
 ex:∃(xB d hh lb:Nat) (w4:World) (ρ:Nat→Nat) (G:Gh) (av wv hv':Value) (mb hb:Nat),w.heap.size≤xB∧Below w.heap.size w w4∧LogAt w4 ρ xB 0 lb G (Lg.new m f bk n kp bt)∧G.left=-1∧G.dt=⟨#[]⟩∧G.db=d∧Tch (fun g=>g=wb∨some g=hv.ownBlock) w4 w'∧w4.heap.size≤mb∧mb<hb ∧
  w'.ownsRow w4.heap.size 234 20 (.slice (some ⟨mb,0,none⟩) 1 1) 1 (mP m f bk n kp bt av wv).toList∧w'.heap[hb]? = some (Obj.cells #[zr lb,zr d,zr hh, .int .i64 (m:Int), .int .i64 (f:Int), .int .i64 (bk:Int), .int .i64 (n:Int), .int .i64 (kp:Int), .int .i64 (bt:Int), .slice (some ⟨mb,0,none⟩) 1 1] 155 (0,0)) ∧
  (w'.ownsRow w4.heap.size 66 3 av 0 []∧∀g,some g=av.ownBlock→g<mb)∧(w'.ownsRow w4.heap.size 304 3 wv n (sU n)∧∀g,some g=wv.ownBlock→g<mb)∧w'.ownsRow B 152 1 hv' (nh+1) (xs++[zr hb])∧(∀g,some g=hv'.ownBlock→some g=hv.ownBlock∨hb<g)∧w'.heap[wb]? = some (Obj.cells (C.setIfInBounds 8 hv') 91 (0,0))
theorem SSH.full {w:World}{lq q:Nat}{C9:Array Value}{m f bk n kp bt:Int}(s:SSH w.heap lq q C9 (cfA ⟨m,f,bk,n,kp,bt⟩)):SSH w.heap lq q C9 (cfA ⟨m,f,bk,n,kp,bt⟩)∧w.cell? ⟨q,0,none⟩=some (.int .i64 m)∧w.cell? ⟨q,1,none⟩=some (.int .i64 f)∧w.cell? ⟨q,2,none⟩=some (.int .i64 bk)∧w.cell? ⟨q,3,none⟩=some (.int .i64 n)∧w.cell? ⟨q,4,none⟩=some (.int .i64 kp)∧w.cell? ⟨q,5,none⟩=some (.int .i64 bt):=
 ⟨s,(zy (j:=0) s.c rfl).1,(zy (j:=1) s.c rfl).1,(zy (j:=2) s.c rfl).1,(zy (j:=3) s.c rfl).1,(zy (j:=4) s.c rfl).1,(zy (j:=5) s.c rfl).1⟩
attribute [local go_sem ↓] aJ
theorem d9 {w:World}{wb:Nat}{C:Array Value}(hblk:w.heap[wb]? = some (Obj.cells C 91 (0,0))){g3:Value}(h3:C[3]? = some g3){Cs:List Cf}(hG:RdC w g3 Cs) (hl:0<Cs.length) (hl2:Cs.length≤1048576) (A B C':Int) (S T:ByteArray) (hA:-9223372036854775808≤A∧A<9223372036854775808)
  (Qp:World→Prop) (hno:∀w',Below w.heap.size w w'→Qp w')
  {hv:Value}(h8:C[8]? = some hv){Bq nh:Nat}{xs:List Value}(hrow:w.ownsRow Bq 152 1 hv nh xs) (hnh:nh≤4000000) (hBq:Bq≤w.heap.size) (ht:TabB Bq w)
  (hyes:∀w' (m f bk n kp bt:Nat),ux m f bk n kp bt=true→MdY w w' wb C hv xs nh Bq m f bk n kp bt→Qp w') :
  Calls Tryz.prog 66 #[zr wb,oV ⟨10,A,B,C',S,T⟩] w fun e w'=>e=.returned (.bool true)∧Qp w':=by
 simp only[oV];obtain⟨W0,hW0⟩:∃W0,W0=w.alloc (Obj.cells #[.int .i64 10, .int .i64 A, .int .i64 B, .int .i64 C', .string S, .string T] 94):=⟨_,rfl⟩
 have b0:Below w.heap.size w W0:=by rw[hW0];exact zv _ _
 have k0:W0.heap[w.heap.size]? = some (Obj.cells #[.int .i64 10, .int .i64 A, .int .i64 B, .int .i64 C', .string S, .string T] 94 (0,0)):=by rw[hW0];exact zj _ _ _
 have hG0:=hG.below b0;obtain⟨ga,gc,rfl,hgc,hgm,hGx⟩:=hG;clear hGx;unfold maxLen at hgm;have HBLK:=zx ((b0.block wb (Mth.gI hblk)).trans hblk);have d3:=(zy HBLK.out h3).1;have dA:=(zy (j:=1) (u:=.int .i64 A) k0 rfl).1;have d0:=(zy (j:=0) (u:=.int .i64 10) k0 rfl).1;obtain⟨r,hr0,hr1,hpk⟩:=sK A (Cs.length:Int) hA.1 hA.2 (by omega) (by omega);obtain⟨i,rfl⟩:=Int.eq_ofNat_of_zero_le hr0
 have hi:i<Cs.length:=by omega
 obtain⟨cb,co,rfl,hcb,e0,e1,e2,e3,e4,e5⟩:=gK hG0 i hi;generalize Cs.getD i mI=cf at *;obtain⟨cm,cf,cbk,cn,ck,ct⟩:=cf;simp only at e0 e1 e2 e3 e4 e5;generalize hCn:Cs.length=nC at *;have HPK:=zx hpk;have HW:=zx hW0;have HB0:=zx b0;have hnw:w.heap.size<W0.heap.size:=(Mth.gI k0)
 have hwb:wb<W0.heap.size:=by have:=World.block_lt_of_cell? _ _ d3;exact this
 generalize hob:w.heap.size=ob at *;have HOB:=zx hob;have HNO:=zx hno;have HYES:=zx hyes;have hrow0:=zq hrow (by rw[hob];exact b0);have HROW:=zx hrow0;have H8:=zx h8;have HT:=zx (TabB.belowB ht (b0.mono hBq));clear hblk h3 hG0 hCn hpk hW0 hob b0 k0 hno hyes hrow hrow0 h8 ht
 go_enter Tryz.func66,Tryz.ntmps66
 go_upto_region 1 with fail
 rw[HOB.out,←HW.out]
 go_upto_region 3 with fail
 go_cut [5] from 14 (fun v wq=>∃q,v=zr q∧wq.heap[q]? = some (Obj.cells #[.int .i64 cm, .int .i64 cf, .int .i64 cbk, .int .i64 cn, .int .i64 ck, .int .i64 ct] 56 (0,0))∧Below W0.heap.size W0 wq∧W0.heap.size≤q)
 case first=>
  have n1:W0.heap.size≠wb:=by omega
  have n2:W0.heap.size≠ob:=by omega
  have n3:W0.heap.size≠cb:=by omega
  have HM1:Hid ((W0.alloc (Obj.cells #[.int .i64 cm, .int .i64 cf, .int .i64 cbk, .int .i64 cn, .int .i64 ck, .int .i64 ct] 56)).drew.heap[W0.heap.size]? = some (Obj.cells #[.int .i64 cm, .int .i64 cf, .int .i64 cbk, .int .i64 cn, .int .i64 ck, .int .i64 ct] 56 (0,0))):=zj W0 #[.int .i64 cm, .int .i64 cf, .int .i64 cbk, .int .i64 cn, .int .i64 ck, .int .i64 ct] 56;have HM2:Hid (Below W0.heap.size W0 (W0.alloc (Obj.cells #[.int .i64 cm, .int .i64 cf, .int .i64 cbk, .int .i64 cn, .int .i64 ck, .int .i64 ct] 56)).drew):=(zv W0 _).trans ((zE _).mono (by simp))
  go_region_held3 (fun w'=>w'.cell? ⟨wb,3,none⟩=some (.slice (some ⟨cb,co,none⟩) nC gc)∧w'.cell? ⟨ob,1,none⟩=some (.int .i64 A)∧w'.cell? ⟨cb,co+i*6,none⟩=some (.int .i64 cm)∧w'.cell? ⟨cb,co+i*6+1,none⟩=some (.int .i64 cf)∧w'.cell? ⟨cb,co+i*6+2,none⟩=some (.int .i64 cbk)∧w'.cell? ⟨cb,co+i*6+3,none⟩=some (.int .i64 cn)∧w'.cell? ⟨cb,co+i*6+4,none⟩=some (.int .i64 ck)∧w'.cell? ⟨cb,co+i*6+5,none⟩=some (.int .i64 ct)) (go_keep) (first|(go_at_call 15;refine(HPK.out _).mono ?_;rintro e W ⟨rfl,hW⟩;rw[hW];clear hW W))
  all_goals (go_wp2_with fail;go_meet;exact⟨_,rfl,HM1.out,HM2.out,Nat.le_refl _⟩)
 case rest=>
  obtain⟨q,rfl,hq,hbq,hqn⟩:=hcut;have o0:=(hbq.cell (p:=⟨ob,0,none⟩) hnw).trans d0;obtain⟨x0,_⟩:=zy (j:=0) (u:=.int .i64 cm) hq rfl;obtain⟨x1,_⟩:=zy (j:=1) (u:=.int .i64 cf) hq rfl;obtain⟨x2,_⟩:=zy (j:=2) (u:=.int .i64 cbk) hq rfl;obtain⟨x3,_⟩:=zy (j:=3) (u:=.int .i64 cn) hq rfl;obtain⟨x4,_⟩:=zy (j:=4) (u:=.int .i64 ck) hq rfl;obtain⟨x5,_⟩:=zy (j:=5) (u:=.int .i64 ct) hq rfl;have HBQ:Hid (Below ob w wc):=HB0.out.trans (hbq.mono (by omega));have HSB:=zx hbq.size;have HSB2:=zx hbq;have HQ:=zx hq;have CD:=zx (kQ wc wc.heap.size (Nat.le_refl _));have hqlt:q<wc.heap.size:=(Mth.gI hq);clear hbq hq e0 e1 e2 e3 e4 e5 d3 dA d0;cases hcf:ux cm cf cbk cn ck ct
  ·go_wp2_with (first
    | (go_at_call 13;refine CD.out.mono ?_;rintro e w3 ⟨d,hh,sb,rfl,_,_,_,hb3,_,_,_⟩;obtain⟨y0,_⟩:=zy (j:=0) (u:=.int .i64 cm) ((hb3.block q hqlt).trans HQ.out) rfl;obtain⟨y1,_⟩:=zy (j:=1) (u:=.int .i64 cf) ((hb3.block q hqlt).trans HQ.out) rfl;obtain⟨y2,_⟩:=zy (j:=2) (u:=.int .i64 cbk) ((hb3.block q hqlt).trans HQ.out) rfl;obtain⟨y3,_⟩:=zy (j:=3) (u:=.int .i64 cn) ((hb3.block q hqlt).trans HQ.out) rfl;obtain⟨y4,_⟩:=zy (j:=4) (u:=.int .i64 ck) ((hb3.block q hqlt).trans HQ.out) rfl;obtain⟨y5,_⟩:=zy (j:=5) (u:=.int .i64 ct) ((hb3.block q hqlt).trans HQ.out) rfl;have HB3:=zx hb3;have CN:=zx (r9 (w:=w3) cm cf cbk cn ck ct hcf (zr d));clear hb3)
    | (go_at_call 85;refine CN.out.mono ?_;rintro e w4 ⟨rfl,hb4⟩;have hbk:=(hb4.block q (Nat.lt_of_lt_of_le hqlt HB3.out.size)).trans ((HB3.out.block q hqlt).trans HQ.out);obtain⟨z0,_⟩:=zy (j:=0) (u:=.int .i64 cm) hbk rfl;obtain⟨z1,_⟩:=zy (j:=1) (u:=.int .i64 cf) hbk rfl;obtain⟨z2,_⟩:=zy (j:=2) (u:=.int .i64 cbk) hbk rfl;obtain⟨z3,_⟩:=zy (j:=3) (u:=.int .i64 cn) hbk rfl;obtain⟨z4,_⟩:=zy (j:=4) (u:=.int .i64 ck) hbk rfl;obtain⟨z5,_⟩:=zy (j:=5) (u:=.int .i64 ct) hbk rfl;have HB4:=zx hb4;have CR:=zx (uz cm cf cbk cn ck ct w4);rw[hcf]at CR;clear hb4 hbk)
    | (go_at_call 123;refine CR.out.mono ?_;rintro e w5 ⟨rfl,hb5⟩;have HB5:=zx hb5;clear hb5))
   go_ret;refine⟨rfl,HNO.out _ ?_⟩;have s3:=HB3.out.size;have s4:=HB4.out.size;have s5:=HSB.out;exact HBQ.out.trans ((HB3.out.mono (by omega)).trans ((HB4.out.mono (by omega)).trans (HB5.out.mono (by omega))))
  ·have hnn:0≤cm∧0≤cf∧0≤cbk∧1≤cn∧cn≤4∧0≤ck∧0≤ct:=by
    unfold ux at hcf;simp only[Bool.and_eq_true,decide_eq_true_eq]at hcf;omega
   obtain⟨m,rfl⟩:=Int.eq_ofNat_of_zero_le hnn.1;obtain⟨f,rfl⟩:=Int.eq_ofNat_of_zero_le hnn.2.1;obtain⟨bk,rfl⟩:=Int.eq_ofNat_of_zero_le hnn.2.2.1;obtain⟨n,rfl⟩:=Int.eq_ofNat_of_zero_le (show 0≤cn by omega);obtain⟨kp,rfl⟩:=Int.eq_ofNat_of_zero_le hnn.2.2.2.2.2.1;obtain⟨bt,rfl⟩:=Int.eq_ofNat_of_zero_le hnn.2.2.2.2.2.2
   have hn4:1≤n∧n≤4:=by omega
   have HRW:Hid (wc.ownsRow Bq 152 1 hv nh xs∧wc.heap[wb]? = some (Obj.cells C 91 (0,0))∧TabB Bq wc):=⟨zq HROW.out HSB2.out,(HSB2.out.block wb hwb).trans HBLK.out,TabB.belowB HT.out (HSB2.out.mono (by omega))⟩;have HNN:=zx hnn;clear hnn
   go_upto_region 12 with(first
    | (go_at_call 13;refine CD.out.mono ?_;rintro e w3 ⟨d,hh,sb,rfl,hg1,hg2,hg3,hb3,hst,hpt,_⟩;obtain⟨y0,_⟩:=zy (j:=0) (u:=.int .i64 (m:Int)) ((hb3.block q hqlt).trans HQ.out) rfl;obtain⟨y1,_⟩:=zy (j:=1) (u:=.int .i64 (f:Int)) ((hb3.block q hqlt).trans HQ.out) rfl;obtain⟨y2,_⟩:=zy (j:=2) (u:=.int .i64 (bk:Int)) ((hb3.block q hqlt).trans HQ.out) rfl;obtain⟨y3,_⟩:=zy (j:=3) (u:=.int .i64 (n:Int)) ((hb3.block q hqlt).trans HQ.out) rfl;obtain⟨y4,_⟩:=zy (j:=4) (u:=.int .i64 (kp:Int)) ((hb3.block q hqlt).trans HQ.out) rfl;obtain⟨y5,_⟩:=zy (j:=5) (u:=.int .i64 (bt:Int)) ((hb3.block q hqlt).trans HQ.out) rfl;have HB3:=zx hb3;have CN:=zx (eH (w:=w3) (B:=wc.heap.size) m f bk n kp bt hcf hst hpt hb3.size hg2 (TabB.belowB (TabB.mono HRW.out.2.2 (by have:=HSB.out;omega)) hb3));have HG1:=zx hg1;clear hb3 hst hpt hg1 hg2 hg3)
    | (go_at_call 85;refine CN.out.mono ?_;rintro e w4 ⟨lb,rfl,hnl⟩;have hb4:=HB3.out.trans (Rl.zK hnl.tch (fun k e=>by rw[e];exact HG1.out) HB3.out.size);have hbk:=(hb4.block q hqlt).trans HQ.out;obtain⟨z0,_⟩:=zy (j:=0) (u:=.int .i64 (m:Int)) hbk rfl;obtain⟨z1,_⟩:=zy (j:=1) (u:=.int .i64 (f:Int)) hbk rfl;obtain⟨z2,_⟩:=zy (j:=2) (u:=.int .i64 (bk:Int)) hbk rfl;obtain⟨z3,_⟩:=zy (j:=3) (u:=.int .i64 (n:Int)) hbk rfl;obtain⟨z4,_⟩:=zy (j:=4) (u:=.int .i64 (kp:Int)) hbk rfl;obtain⟨z5,_⟩:=zy (j:=5) (u:=.int .i64 (bt:Int)) hbk rfl;have HB4:=zx hb4;have HNL:=zx hnl.ex;have CR:=zx (uz m f bk n kp bt w4);rw[hcf]at CR;have HBK4:=zx hbk;clear hb4 hnl hbk)
    | (go_at_call 123;refine CR.out.mono ?_;rintro e w5 ⟨rfl,hb5⟩;have HB5:=zx hb5;have hbk:=(hb5.block q (Nat.lt_of_lt_of_le hqlt HB4.out.size)).trans HBK4.out;obtain⟨v0,_⟩:=zy (j:=0) (u:=.int .i64 (m:Int)) hbk rfl;obtain⟨v1,_⟩:=zy (j:=1) (u:=.int .i64 (f:Int)) hbk rfl;obtain⟨v2,_⟩:=zy (j:=2) (u:=.int .i64 (bk:Int)) hbk rfl;obtain⟨v3,_⟩:=zy (j:=3) (u:=.int .i64 (n:Int)) hbk rfl;obtain⟨v4,_⟩:=zy (j:=4) (u:=.int .i64 (kp:Int)) hbk rfl;obtain⟨v5,_⟩:=zy (j:=5) (u:=.int .i64 (bt:Int)) hbk rfl;have CNR:=zx (eG (w:=w5) m f bk n kp bt hn4);have HBK5:=zx hbk;clear hb5 hbk))
   clear x0 x1 x2 x3 x4 x5 y0 y1 y2 y3 y4 y5 z0 z1 z2 z3 z4 z5 o0
   go_upto_region 13 with(first
    | (go_at_call 124;refine CNR.out.mono ?_;rintro e w6 ⟨av,wv,rfl,hoa,how,hb6⟩;have HAV:=zx hoa;have HWV:=zx how;have HB6:=zx hb6;obtain⟨C9,hC9⟩:∃C9,C9=mP m f bk n kp bt av wv:=⟨_,rfl⟩;rw[←hC9];have hsz9:C9.size=20:=(by rw[hC9];rfl);have h19:C9.all (·.oneCell')=true:=(by rw[hC9];exact cL hoa how);have HC9:=zx hC9;have hsz3:(Tryz.prog.info? 234).map (·.size)=some C9.size:=(by rw[hsz9];exact Tryz.sizeLog);have hz3:zrC.size=C9.size:=(by rw[hsz9];rfl);have hlz3:(w6.alloc (Obj.cells zrC 234)).heap[w6.heap.size]? = some (Obj.cells zrC 234 (0,0)):=heap_alloc_last _ _;have HS9:=zx hsz9;clear hoa how hb6 hC9 v0 v1 v2 v3 v4 v5 CNR hsz9)
    | (refine wpList_store_row rfl 234 (.tmp 13) (.tmp 73) rfl w6.heap.size C9 rfl rfl 234 zrC hlz3 hsz3 hz3 h19 ?_))
   have hsr:=World.setRow_alloc_new w6 zrC C9 234;unfold zrC at hsr;rw[hsr];clear hsr hlz3
   have hq6:w6.heap[q]? = some (Obj.cells (cfA ⟨m,f,bk,n,kp,bt⟩) 56 (0,0)):=by
    have s4:=HB4.out.size;have s5:=HB5.out.size;exact(HB6.out.block q (by omega)).trans HBK5.out
   have h46:Below w4.heap.size w4 w6:=HB5.out.trans (HB6.out.mono HB5.out.size);have hc6:Below wc.heap.size wc w6:=HB4.out.trans (h46.mono HB4.out.size);have hS7:SSH (w6.alloc (Obj.cells C9 234)).heap w6.heap.size q C9 (cfA ⟨m,f,bk,n,kp,bt⟩):=⟨heap_alloc_last _ _,yj _ hq6⟩;have hR7:=zq HRW.out.1 (hc6.trans ((zv w6 (Obj.cells C9 234)).mono hc6.size));have hK7:=((hc6.trans ((zv w6 (Obj.cells C9 234)).mono hc6.size)).block wb (by have:=HSB.out;omega)).trans HRW.out.2.1
   have hs7:(w6.alloc (Obj.cells C9 234)).heap.size=w6.heap.size+1:=by simp
   have hb67:=zv w6 (Obj.cells C9 234);have HOA:Hid ((w6.alloc (Obj.cells C9 234)).ownsRow w5.heap.size 66 3 av 0 []∧(w6.alloc (Obj.cells C9 234)).ownsRow w5.heap.size 304 3 wv n (sU n)):=⟨zq HAV.out hb67,zq HWV.out hb67⟩;have HB47:Hid (Below w4.heap.size w4 (w6.alloc (Obj.cells C9 234))):=h46.trans (hb67.mono h46.size);have hs46:=h46.size;have hwb6:wb<w6.heap.size:=Nat.lt_of_lt_of_le hwb (Nat.le_trans HSB.out hc6.size);have hq6l:q<w6.heap.size:=Nat.lt_of_lt_of_le hqlt hc6.size;obtain⟨n6,hn6⟩:∃n6,n6=w6.heap.size:=⟨_,rfl⟩;rw[←hn6]at hS7 hs7 hwb6 hq6l hs46;have HN6:=zx hn6;generalize w6.alloc (Obj.cells C9 234)=w7 at *
   have hld:(ldS (.pointer (some ⟨n6,0,none⟩))).run Tryz.prog w7.drew=.ok (.agg C9) w7.drew:=by
    have h1:=run_loadAt_mid (P:=Tryz.prog) w7.drew n6 0 234 C9.toList _ (by have:=World.rangeAt_of_block (w:=w7.drew) hS7.l 0 C9.size;simpa using this) Tryz.underlying234 rfl (by rw[Array.length_toList];exact hsz3)
    rwa [Array.toArray_toList]at h1
   have hfold:=uO (z:=zrC) (c:=C9) (by rw[HS9.out];rfl);unfold zrC at hfold;rw[HS9.out]at hfold;have HS7:=zx hS7;have HR7:=zx hR7;have HK7:=zx hK7;have c8:=(zy hK7 H8.out).1;obtain⟨ha,hc,rfl,_,hhm⟩:=zu hR7;obtain⟨l0,hl0,hl1,hl2,hl3⟩:=info_parts Tryz.infoPH
   have n61:n6≠wb:=by omega
   have n62:q≠wb:=by omega
   have hz9:=HS9.out;rw[←HN6.out];obtain⟨W9,hW9⟩:∃W9,W9=((w7.alloc (Obj.cells C9 234)).alloc (Obj.cells #[zr lb, .pointer (some ⟨d,0,none⟩), .pointer (some ⟨hh,0,none⟩), .int .i64 (m:Int), .int .i64 (f:Int), .int .i64 (bk:Int), .int .i64 (n:Int), .int .i64 (kp:Int), .int .i64 (bt:Int), .slice (some ⟨n6+1,0,none⟩) 1 1] 155)).alloc (Obj.cells #[.pointer (some ⟨n6+1+1,0,none⟩)] 152):=⟨_,rfl⟩;obtain⟨wa,hwa⟩:∃wa,wa=w7.alloc (Obj.cells C9 234):=⟨_,rfl⟩;obtain⟨wx,hwx⟩:∃wx,wx=wa.alloc (Obj.cells #[zr lb, .pointer (some ⟨d,0,none⟩), .pointer (some ⟨hh,0,none⟩), .int .i64 (m:Int), .int .i64 (f:Int), .int .i64 (bk:Int), .int .i64 (n:Int), .int .i64 (kp:Int), .int .i64 (bt:Int), .slice (some ⟨n6+1,0,none⟩) 1 1] 155):=⟨_,rfl⟩
   have hba:Below w7.heap.size w7 wa:=by rw[hwa];exact zv _ _
   have hbx:Below w7.heap.size w7 wx:=hba.trans ((by rw[hwx];exact zv _ _:Below wa.heap.size wa wx).mono hba.size)
   have hW9':W9=wx.alloc (Obj.cells #[.pointer (some ⟨n6+1+1,0,none⟩)] 152):=by rw[hW9,hwx,hwa]
   have hb9:Below w7.heap.size w7 W9:=hbx.trans ((by rw[hW9'];exact zv _ _:Below wx.heap.size wx W9).mono hbx.size)
   have hsa:wa.heap.size=n6+1+1:=by rw[hwa];simp[hs7]
   have hsx:wx.heap.size=n6+1+1+1:=by rw[hwx];simp[hsa]
   have hs9:W9.heap.size=n6+1+1+1+1:=by rw[hW9'];simp[hsx]
   have ca:=(hba.cell (p:=⟨wb,8,none⟩) (by show wb<_;omega)).trans c8;have cx:=(hbx.cell (p:=⟨wb,8,none⟩) (by show wb<_;omega)).trans c8;have c9:=(hb9.cell (p:=⟨wb,8,none⟩) (by show wb<_;omega)).trans c8;obtain⟨_,u0,u1,u2,u3,u4,u5⟩:=SSH.full HS7.out;have hS8:SSH (w7.alloc (Obj.cells C9 234)).heap n6 q C9 (cfA ⟨m,f,bk,n,kp,bt⟩):=SSH.al HS7.out _;obtain⟨_,r0,r1,r2,r3,r4,r5⟩:=SSH.full hS8;rw[hwa]at ca;rw[hwx,hwa]at cx;rw[hW9]at c9
   have HO10:Hid ((((w7.alloc (Obj.cells C9 234)).alloc (Obj.cells #[zr lb, .pointer (some ⟨d,0,none⟩), .pointer (some ⟨hh,0,none⟩), .int .i64 (m:Int), .int .i64 (f:Int), .int .i64 (bk:Int), .int .i64 (n:Int), .int .i64 (kp:Int), .int .i64 (bt:Int), .slice (some ⟨n6+1,0,none⟩) 1 1] 155)).alloc (Obj.cells #[.pointer (some ⟨n6+1+1,0,none⟩)] 152)).drew.ownsRow Bq 152 1 (.slice ha nh hc) nh xs):=by
    rw[←hW9];exact zq (zq HR7.out hb9) (zE W9)
   have HX10:Hid ((((w7.alloc (Obj.cells C9 234)).alloc (Obj.cells #[zr lb, .pointer (some ⟨d,0,none⟩), .pointer (some ⟨hh,0,none⟩), .int .i64 (m:Int), .int .i64 (f:Int), .int .i64 (bk:Int), .int .i64 (n:Int), .int .i64 (kp:Int), .int .i64 (bt:Int), .slice (some ⟨n6+1,0,none⟩) 1 1] 155)).alloc (Obj.cells #[.pointer (some ⟨n6+1+1,0,none⟩)] 152)).drew.ownsRow 0 152 1 (.slice (some ⟨n6+1+1+1,0,none⟩) 1 1) 1 [zr (n6+1+1)]):=by
    rw[←hW9,hW9',←hsx];exact zq (World.ownsRow_lit wx #[.pointer (some ⟨n6+1+1,0,none⟩)] 1 (Nat.zero_le _) (by decide) rfl) (zE _)
   have HZ10:Hid (Bq≤(((w7.alloc (Obj.cells C9 234)).alloc (Obj.cells #[zr lb, .pointer (some ⟨d,0,none⟩), .pointer (some ⟨hh,0,none⟩), .int .i64 (m:Int), .int .i64 (f:Int), .int .i64 (bk:Int), .int .i64 (n:Int), .int .i64 (kp:Int), .int .i64 (bt:Int), .slice (some ⟨n6+1,0,none⟩) 1 1] 155)).alloc (Obj.cells #[.pointer (some ⟨n6+1+1,0,none⟩)] 152)).drew.heap.size):=by
    rw[←hW9];show Bq≤W9.heap.size;have:=HSB.out;omega
   have HF:Hid (∀v10 W10,W10.ownsRow Bq 152 1 v10 (nh+1) (xs++[zr (n6+1+1)])→(((w7.alloc (Obj.cells C9 234)).alloc (Obj.cells #[zr lb, .pointer (some ⟨d,0,none⟩), .pointer (some ⟨hh,0,none⟩), .int .i64 (m:Int), .int .i64 (f:Int), .int .i64 (bk:Int), .int .i64 (n:Int), .int .i64 (kp:Int), .int .i64 (bt:Int), .slice (some ⟨n6+1,0,none⟩) 1 1] 155)).alloc (Obj.cells #[.pointer (some ⟨n6+1+1,0,none⟩)] 152)).drew.grownBy W10 (Value.slice ha nh hc).ownBlock→(v10.ownBlock=(Value.slice ha nh hc).ownBlock∨v10.ownBlock=some (((w7.alloc (Obj.cells C9 234)).alloc (Obj.cells #[zr lb, .pointer (some ⟨d,0,none⟩), .pointer (some ⟨hh,0,none⟩), .int .i64 (m:Int), .int .i64 (f:Int), .int .i64 (bk:Int), .int .i64 (n:Int), .int .i64 (kp:Int), .int .i64 (bt:Int), .slice (some ⟨n6+1,0,none⟩) 1 1] 155)).alloc (Obj.cells #[.pointer (some ⟨n6+1+1,0,none⟩)] 152)).drew.heap.size)→(W10.cell? ⟨wb,8,none⟩=some (.slice ha nh hc)∧W10.frozen? ⟨wb,8,none⟩=false)∧Qp (W10.setCell ⟨wb,8,none⟩ v10)):=by
    intro v10 W10 o10 g10 n10;rw[←hW9]at g10 n10;have hz10:W9.heap.size≤W10.heap.size:=g10.size
    have kB:∀k,k<W9.heap.size→some k≠(Value.slice ha nh hc).ownBlock→W10.heap[k]? = W9.heap[k]? := fun k hk hn=>g10.block k hk hn
    have hvl:∀g,some g=(Value.slice ha nh hc).ownBlock→g<wc.heap.size:=fun g hg=>(zw HRW.out.1 hg).2.1
    have hvn:some wb≠(Value.slice ha nh hc).ownBlock:=fun e=>by
     obtain⟨_,_,D,hD⟩:=zw HR7.out e;have:=zc hD HK7.out;exact absurd this (by decide)
    have hkw:W10.heap[wb]? = some (Obj.cells C 91 (0,0)):=(kB wb (by omega) hvn).trans ((hb9.block wb (by omega)).trans HK7.out);have h64:wc.heap.size≤w4.heap.size:=HB4.out.size
    have far:∀k,w4.heap.size≤k→k<W9.heap.size→(W10.setCell ⟨wb,8,none⟩ v10).heap[k]? = W9.heap[k]? := fun k h1 h2=>by
     rw[zt (by have:=HSB.out;omega)];exact kB k h2 (fun e=>by have:=hvl k e;omega)
    obtain⟨ρ,G,hla,e1,e2,e3,_⟩:=HNL.out
    have hown9:W9.ownsRow w4.heap.size 234 20 (.slice (some ⟨n6+1,0,none⟩) 1 1) 1 C9.toList:=by
     have:=World.ownsRow_lit (base:=w4.heap.size) (e:=234) (size:=20) w7 C9 1 (by omega) (by decide) (by rw[HS9.out]);rw[hs7,←hwa]at this
     have hbx':Below wa.heap.size wa wx:=by rw[hwx];exact zv _ _
     have hb9':Below wx.heap.size wx W9:=by rw[hW9'];exact zv _ _
     exact zq (zq this hbx') hb9'
    have hhost:W9.heap[n6+1+1]? = some (Obj.cells #[zr lb, .pointer (some ⟨d,0,none⟩), .pointer (some ⟨hh,0,none⟩), .int .i64 (m:Int), .int .i64 (f:Int), .int .i64 (bk:Int), .int .i64 (n:Int), .int .i64 (kp:Int), .int .i64 (bt:Int), .slice (some ⟨n6+1,0,none⟩) 1 1] 155 (0,0)):=by
     rw[hW9'];refine yj _ ?_;rw[hwx,←hsa];exact zj _ _ _
    have o9:∀ {T:TypeId}{sz k:Nat}{v:Value}{ys:List Value},w7.ownsRow w5.heap.size T sz v k ys→(∀g,some g=v.ownBlock→g<n6)→(W10.setCell ⟨wb,8,none⟩ v10).ownsRow w4.heap.size T sz v k ys∧∀g,some g=v.ownBlock→g<n6+1:=fun {T sz k v ys} ho hg=>by
     refine⟨zn (zW (zq ho hb9) HB5.out.size) (fun g q=>far g ?_ ?_),fun g q=>by have:=hg g q;omega⟩
     ·have:=(zw ho q).1;have:=HB5.out.size;omega
     ·have:=hg g q;omega
    refine⟨zy hkw H8.out,HYES.out _ m f bk n kp bt hcf ⟨wc.heap.size,d,hh,lb,w4,ρ,G,av,wv,v10,n6+1,n6+1+1,by rw[HOB.out];have:=HSB.out;omega,by rw[HOB.out];exact HBQ.out.trans (HB4.out.mono (by have:=HSB.out;omega)),hla,e1,e2,e3,⟨?_,?_,?_,?_,fun k hk hn=>?_⟩,by omega,by omega,?_,(far _ (by omega) (by omega)).trans hhost,o9 HOA.out.1 (fun g hg=>?_),o9 HOA.out.2 (fun g hg=>?_),?_,fun g hg=>?_,zh hkw⟩⟩
    ·exact g10.os.trans (hb9.os.trans HB47.out.os)
    ·exact g10.tape.trans (hb9.tape.trans HB47.out.tape)
    ·exact g10.output.trans (hb9.output.trans HB47.out.output)
    ·have h1:=HB47.out.size;have h2:=hb9.size
     have h3:(W10.setCell ⟨wb,8,none⟩ v10).heap.size=W10.heap.size:=by simp
     omega
    ·rw[zt (fun e=>hn (Or.inl e)),kB k (by omega) (fun e=>hn (Or.inr e)),hb9.block k (by omega)];exact HB47.out.block k hk
    ·rw[←HC9.out];refine zn hown9 (fun g hg=>?_);obtain⟨q1,q2,_⟩:=zw hown9 hg;exact far g q1 q2
    ·have:=(zw HAV.out hg).2.1;rw[HN6.out];exact this
    ·have:=(zw HWV.out hg).2.1;rw[HN6.out];exact this
    ·refine zn o10 (fun g hg=>zt (fun e=>?_));subst e;obtain⟨_,_,D,hD⟩:=zw o10 hg;have:=zc hD hkw;exact absurd this (by decide)
    ·rcases n10 with n10|n10
     ·rw[n10]at hg;exact Or.inl hg
     ·rw[n10]at hg
      injection hg with hg
      refine Or.inr ?_;have:g=W9.heap.size:=hg;omega
   clear hS7 hS8 hR7 hwa hwx hba hbx hW9' hb9 hsa hsx hs9 hs46 hW9 hK7 hq6 hb67 h46 hc6 h19 hz3 hsz3 CD CN CR hn6;simp only[Act.put]
   go_cut [] from 74 (fun wq=>Qp wq)
   case first=>
    go_region_law (refine xh _ rfl (.tmp 78) (.tmp 87) 81 rfl Bq 0 152 l0 (.pointer none) 1 8 Tryz.underlying81 hl0 hl1 hl2 hl3 rfl (by decide) (.slice ha nh hc) nh xs rfl (by exact HO10.out) (.slice (some ⟨n6+1+1+1,0,none⟩) 1 1) 1 [zr (n6+1+1)] rfl (by exact HX10.out) (by intro u hu;simp at hu;subst hu;rfl) (by unfold maxLen;omega) (by omega) (by exact HZ10.out) ?_;intro v10 W10 o10 g10 n10;have HF10:=zx (HF.out v10 W10 o10 g10 n10);obtain⟨y8,f8⟩:=HF10.out.1;obtain⟨a10,c10,rfl,_,_⟩:=zu o10;clear o10 g10 n10)
    all_goals (go_wp2_with fail;go_meet;exact HF10.out.2)
   case rest=>
    have HC:=zx hcut;clear hcut;go_wp2;go_ret;exact⟨rfl,HC.out⟩
end Go.Proofs.YtkncboinfcnklaaGreatDoor.Lw
namespace Go.Proofs.YtkncboinfcnklaaGreatDoor.Lw
open Go.RowKit Go.Deep Go.Shelf Go.Proofs.YtkncboinfcnklaaGreatDoor.Mth Go.Proofs.YtkncboinfcnklaaGreatDoor.Rl
theorem cC {m f bk n kp bt:Nat}(hc:ux m f bk n kp bt=true):Inv (Lg.new m f bk n kp bt) []:=by
 unfold ux at hc;simp only[Bool.and_eq_true,decide_eq_true_eq]at hc
 have hw:∀q,((Lg.new m f bk n kp bt).wks.getD q zo)=zo:=fun q=>by
  simp only[Lg.new,List.getD_eq_getElem?_getD,List.getElem?_replicate]
  split <;> rfl
 have hct:∀i,ct (Lg.new m f bk n kp bt).wks i=0:=fun i=>by
  simp[Lg.new,ct,zo,tc]
 refine⟨⟨⟨by simp[Lg.new];omega,by simp[Lg.new];omega⟩,⟨by simp[Lg.new];omega,by simp[Lg.new];omega⟩,by simp[Lg.new];omega,⟨by simp[Lg.new];omega,by simp[Lg.new];omega⟩,⟨by simp[Lg.new];omega,by simp[Lg.new];omega⟩,by simp[Lg.new];omega⟩,by simp[Lg.new],⟨fun j hj=>absurd hj (by simp),List.Pairwise.nil,fun e he=>by cases he⟩,rfl,?_,(fun e he=>by cases he),?_,by simp[Lg.new],fun i=>by rw[hct];omega,fun i hi=>by rw[hct]at hi;omega,fun i _ hi=>?_,fun q _=>?_,(fun x p hp=>by cases hp)⟩
 ·rw[tz];simp[Lg.new]
 ·intro es hes;rw[wu]at hes;simp[Lg.new]at hes
 ·simp[Lg.new]at hi;omega
 ·rw[hw q];exact⟨(fun i hi=>by cases hi),fun _=>rfl⟩
theorem fj (n:Nat):yz (List.replicate n zo) (fun _=>.slice none 0 0) (fun _=>0)=sU n:=by
 unfold yz sU;rw[List.length_replicate];congr 1;funext q
 have:(List.replicate n zo).getD q zo=zo:=by
  rw[List.getD_eq_getElem?_getD,List.getElem?_replicate]
  split <;> rfl
 rw[this];rfl
theorem gM (n q:Nat):(List.replicate n zo).getD q zo=zo:=by
 rw[List.getD_eq_getElem?_getD,List.getElem?_replicate]
 split <;> rfl
def aq (hb lb d hh mb xB:Nat) (ρ:Nat→Nat) (G:Gh) (m f bk n kp bt:Nat) (av wv:Value):Ho:=
 ⟨hb,lb,d,hh, .slice (some ⟨mb,0,none⟩) 1 1,ρ,xB,0,G,Lg.new m f bk n kp bt,[],[],⟨av, .slice none 0 0,fun _=>.slice none 0 0,fun _ _=>.slice none 0 0,wv,fun _=>.slice none 0 0,fun _=>0, .slice none 0 0⟩⟩
theorem cH {P:Lg→List Tl→Prop}{Z:Nat→Prop}{w w':World}{B wb:Nat}{g0 g1 g2 g3 hv ke ks kr:Value}{Ne Ns Nr M:Nat}{hs:List Ho}(h:HI P Z w B wb g0 g1 g2 g3 hv ke ks kr Ne Ns Nr M hs none) (hBw:B≤w.heap.size){m f bk n kp bt:Nat}(hc:ux m f bk n kp bt=true) (hP0:∀m f bk n kp bt,P (Lg.new m f bk n kp bt) [])
  (hy:MdY w w' wb (dP g0 g1 g2 g3 hv ke ks kr) hv (hs.map (fun x=>zr x.hb)) hs.length B m f bk n kp bt):HS P Z w w' B wb g0 g1 g2 g3 (M+1):=by
 obtain⟨xB,d,hh,lb,w4,ρ,G,av,wv,hv',mb,hb,e1,e2,hla,e3,e4,e5,ht,e6,e7,om,hbk,⟨oa,ga⟩,⟨ow,gw⟩,oh,hvb,hwb⟩:=hy.ex;have hs4:=e2.size;have hst:=ht.size;have h4:=h.below e2
 have hvl:∀g,some g=hv.ownBlock→g<w.heap.size:=fun g hg=>h.mlt (Or.inr (Or.inl hg))
 have hbl:hb<w'.heap.size:=(Mth.gI hbk)
 have hvn:∀g,w.heap.size≤g→g≤hb→some g≠hv'.ownBlock:=fun g h1 h2 e=>by
  rcases hvb g e with q|q
  ·have:=hvl g q;omega
  ·omega
 have nz:∀g,w4.heap.size≤g→g≤mb→ag w w' (aq hb lb d hh mb xB ρ G m f bk n kp bt av wv) hv' g:=fun g h1 h2=>⟨by omega,by omega,hla.free h1,by show g≠hb;omega,hvn g (by omega) (by omega)⟩
 have htw:Tch (fun g=>g=wb∨some g=hv.ownBlock) w w':=⟨ht.os.trans e2.os,ht.tape.trans e2.tape,ht.output.trans e2.output,Nat.le_trans hs4 hst,fun k hk hn=>(ht.block k (by omega) hn).trans (e2.block k hk)⟩
 have hlw:LogAt w' ρ xB 0 lb G (Lg.new m f bk n kp bt):=hla.same (fun g q=>ht.block g (by rcases q with q|q;exact(hla.x.lt g q).1;exact yw q) (fun s=>by
  have hmg:Mu wb hv ke ks kr (hs.map Ho.hb) g:=s.elim (fun e=>Or.inl e) (fun e=>Or.inr (Or.inl e))
  rcases q with q|q
  ·have:=(hla.x.lt g q).2;have:=h.mlt hmg;omega
  ·exact h4.mn hmg q)) hst
 have key:=h.add (aq hb lb d hh mb xB ρ G m f bk n kp bt av wv) (hv':=hv') htw hwb (by rw[List.map_append];exact oh) (fun g hg=>(hvb g hg).imp id (fun q=>by omega)) (by
   have:kL (aq hb lb d hh mb xB ρ G m f bk n kp bt av wv)=#[zr lb,zr d,zr hh, .int .i64 (m:Int), .int .i64 (f:Int), .int .i64 (bk:Int), .int .i64 (n:Int), .int .i64 (kp:Int), .int .i64 (bt:Int), .slice (some ⟨mb,0,none⟩) 1 1]:=by simp[kL,aq,Lg.new]
   rw[this]
   exact hbk) (by show w.heap.size≤hb;omega) e1 (fun k hk=>⟨(hlw.x.lt k hk).1,(hla.x.lt k hk).2⟩) (hla.free (by show w4.heap.size≤hb;omega)) (fun g hg=>by
   rcases hvb g hg with q|q
   ·by_cases z:ρ g=0
    ·exact z
    ·have:=(hla.x.lt g z).2;have:=hvl g q;omega
   ·exact hla.free (by omega)) ?_ hBw
 ·refine⟨Rl.zK htw (fun k q=>?_) hBw,fun g hg=>htw.block g (h.zm g hg).1 (fun q=>?_),_,_,_,_,_,_,_,_,_,fun g hg=>Or.inl hg,key⟩
  ·rcases q with rfl|q
   ·exact h.ge
   ·exact(h.mty (Or.inr (Or.inl q))).1
  ·exact(h.zm g hg).2.1 (q.elim (fun e=>Or.inl e) (fun e=>Or.inr (Or.inl e)))
 ·refine⟨hlw,cC hc,e3,e5,⟨?_,Nat.zero_le _,Nat.zero_le _⟩,?_,fun g hg=>?_,⟨zW oa (Nat.zero_le _),World.ownsRow_nil _ _ _ _,fun i _=>World.ownsRow_nil _ _ _ _,fun i _ j hj=>absurd hj (Nat.not_lt_zero _),fun i _ j hj=>absurd hj (Nat.not_lt_zero _),?_,fun q hq=>?_,fun q hq i hi=>?_,World.ownsRow_nil _ _ _ _⟩,⟨fun g hg=>?_,fun g hg=>?_,fun i _ g hg=>?_,fun g hg=>?_,fun q _ g hg=>?_,fun g hg=>?_⟩,hP0 _ _ _ _ _ _⟩
  ·show G.dt.size≤_;rw[e4];exact Nat.zero_le _
  ·have:zR (aq hb lb d hh mb xB ρ G m f bk n kp bt av wv).V (Lg.new m f bk n kp bt)=mP m f bk n kp bt av wv:=by simp[zR,aq,mP,Lg.new]
   show w'.ownsRow 0 _ 20 _ 1 (zR (aq hb lb d hh mb xB ρ G m f bk n kp bt av wv).V (Lg.new m f bk n kp bt)).toList;rw[this];exact zW om (Nat.zero_le _)
  ·injection hg with hg
   subst hg;exact Or.inr (nz _ e6 (Nat.le_refl _))
  ·show w'.ownsRow 0 _ 3 wv (List.replicate n zo).length (yz (List.replicate n zo) (fun _=>.slice none 0 0) (fun _=>0));rw[fj,List.length_replicate];exact zW ow (Nat.zero_le _)
  ·show w'.ownsRow 0 3 1 (.slice none 0 0) ((List.replicate n zo).getD q zo).list.length (((List.replicate n zo).getD q zo).list.map iV);rw[gM];exact World.ownsRow_nil _ _ _ _
  ·have:((List.replicate n zo).getD q zo).runs=some i:=hi;rw[gM]at this;cases this
  ·exact Or.inr (nz g (zw oa hg).1 (Nat.le_of_lt (ga g hg)))
  ·cases hg
  ·cases hg
  ·exact Or.inr (nz g (zw ow hg).1 (Nat.le_of_lt (gw g hg)))
  ·cases hg
  ·cases hg
theorem dz {P:Lg→List Tl→Prop}{Z:Nat→Prop}{w:World}{B wb:Nat}{g0 g1 g2 g3 hv ke ks kr:Value}{Ne Ns Nr M:Nat}{hs:List Ho}(h:HI P Z w B wb g0 g1 g2 g3 hv ke ks kr Ne Ns Nr M hs none) (ht:TabB B w) (hBw:B≤w.heap.size){Cs:List Cf}(hG:RdC w g3 Cs) (hCl:Cs.length≤1048576) (o:Opr) (hk:o.k=10∨o.k=11) (hA:-9223372036854775808≤o.A∧o.A<9223372036854775808) (hM:M≤400000) (hP0:∀m f bk n kp bt,P (Lg.new m f bk n kp bt) []) :
  Calls Tryz.prog 66 #[zr wb,oV o] w fun e w'=>e=.returned (.bool true)∧HS P Z w w' B wb g0 g1 g2 g3 (M+1):=by
 by_cases h0:Cs.length=0
 ·obtain⟨a,c,e,_,_,_⟩:=hG;rw[h0]at e;refine(iY h.blk a c (by rw[e];rfl) o).mono ?_;rintro e w' ⟨rfl,hb⟩;exact⟨rfl,HS.idle h hBw hb⟩
 ·obtain⟨k,A,Bv,C',S,T⟩:=o;simp only at hk hA
  rcases hk with rfl|rfl
  ·exact d9 h.blk (g3:=g3) rfl hG (by omega) hCl A Bv C' S T hA (fun w'=>HS P Z w w' B wb g0 g1 g2 g3 (M+1)) (fun w' hb=>HS.idle h hBw hb) (hv:=hv) rfl h.row (by have:=h.mb;omega) hBw ht (fun w' m f bk n kp bt hc hy=>cH h hBw hc hP0 hy)
  ·refine(eA h.blk (g3:=g3) rfl hG (by omega) hCl A Bv C' S T hA).mono ?_;rintro e w' ⟨rfl,hb⟩;exact⟨rfl,HS.idle h hBw hb⟩
end Go.Proofs.YtkncboinfcnklaaGreatDoor.Lw
