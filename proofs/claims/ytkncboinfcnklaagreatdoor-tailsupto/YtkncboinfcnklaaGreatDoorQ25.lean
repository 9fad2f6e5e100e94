import Derived.Test.YtkncboinfcnklaaGreatDoorQ22
import Derived.Deep.WholeRow
import Derived.Test.YtkncboinfcnklaaGreatDoorQ21
set_option maxRecDepth 100000
set_option maxHeartbeats 8000000
namespace Go.Proofs.YtkncboinfcnklaaGreatDoor.Rl
open Go.RowKit Go.Deep Go.Shelf Go.Proofs.YtkncboinfcnklaaGreatDoor.Mth
def mP (m f bk n kp bt:Nat) (av wv:Value):Array Value:=#[.int .i64 (m:Int), .int .i64 (f:Int), .int .i64 (bk:Int), .int .i64 (n:Int), .int .i64 (kp:Int), .int .i64 (bt:Int), .int .i64 0,av, .slice none 0 0, .slice none 0 0, .slice none 0 0, .slice none 0 0, .slice none 0 0, .slice none 0 0, .slice none 0 0,wv, .slice none 0 0, .int .i64 0, .bool false, .slice none 0 0]
def sU (k:Nat):List Value:=(List.range k).flatMap (fun _=>[.slice none 0 0, .int .i64 (-1), .int .i64 0])
theorem lZ {w w':World}{o:Obj}{v:Value}(hg:(w.alloc o).grownBy w' v.ownBlock):Tch (fun k=>some k=v.ownBlock) w w':=by
 have b:=zv w o;exact⟨hg.os.trans b.os,hg.tape.trans b.tape,hg.output.trans b.output,by have:=hg.size;simp at this;omega,fun k hk hn=>(hg.block k (by simp;omega) hn).trans (b.block k hk)⟩
structure NwX (w W:World) (n:Nat) (C0 X:Array Value):Prop where
 bel:Below n w W
 src:W.heap[n]? = some (Obj.cells C0 56 (0,0))
 res:W.heap[n+1+1]? = some (Obj.cells zrC 234 (0,0))
 x:W.heap[n+1+1+1]? = some (Obj.cells X 234 (0,0))
theorem NwX.below {w W W':World}{n:Nat}{C0 X:Array Value}(h:NwX w W n C0 X) (hb:Below W.heap.size W W'):NwX w W' n C0 X:=by
 have h1:=(Mth.gI h.x);exact⟨h.bel.trans (hb.mono (by omega)),(hb.block _ (by omega)).trans h.src,(hb.block _ (by omega)).trans h.res,(hb.block _ h1).trans h.x⟩
theorem NwX.set {w W:World}{n:Nat}{C0 X:Array Value}(h:NwX w W n C0 X) (j:Nat) (v:Value):NwX w (W.setCell ⟨n+1+1+1,j,none⟩ v) n C0 (X.setIfInBounds j v):=
 ⟨zZ h.bel (by omega),(zt (by omega)).trans h.src,(zt (by omega)).trans h.res,zh h.x⟩
theorem eG {w:World}(m f bk n kp bt:Nat) (hn:1≤n∧n≤4) :
  Calls Tryz.prog 124 #[.agg #[.int .i64 (m:Int), .int .i64 (f:Int), .int .i64 (bk:Int), .int .i64 (n:Int), .int .i64 (kp:Int), .int .i64 (bt:Int)], .agg #[.int .i64 0, .slice none 0 0]] w fun e w'=>∃av wv,e=.returned (.agg (mP m f bk n kp bt av wv))∧w'.ownsRow w.heap.size 66 3 av 0 []∧w'.ownsRow w.heap.size 304 3 wv n (sU n)∧Below w.heap.size w w':=by
 obtain⟨p0,hp0,hq0,hq1,hq2⟩:=info_parts Tryz.infoWkr;obtain⟨W3,hW3,hb3,e1,e2,e3,hs3⟩:=lp w #[.int .i64 (m:Int), .int .i64 (f:Int), .int .i64 (bk:Int), .int .i64 (n:Int), .int .i64 (kp:Int), .int .i64 (bt:Int)] #[.int .i64 0, .slice none 0 0] zrC 56 228 234;obtain⟨C,hC⟩:∃C,C=mP m f bk n kp bt (.slice none 0 0) (.slice none 0 0):=⟨_,rfl⟩
 have hsz:(Tryz.prog.info? 234).map (·.size)=some C.size:=by rw[hC];exact Tryz.sizeLog
 have hzC:zrC.size=C.size:=by rw[hC];rfl
 have h1C:C.all (·.oneCell')=true:=by rw[hC];simp[mP,Value.oneCell']
 have b4:=zv W3 (Obj.cells C 234);have k4:=zj W3 C 234;rw[hs3]at k4;obtain⟨W4,hW4⟩:∃W4,W4=W3.alloc (Obj.cells C 234):=⟨_,rfl⟩;rw[←hW4]at b4 k4;have HX:Hid (NwX w W4 w.heap.size #[.int .i64 (m:Int), .int .i64 (f:Int), .int .i64 (bk:Int), .int .i64 (n:Int), .int .i64 (kp:Int), .int .i64 (bt:Int)] C):=⟨hb3.trans (b4.mono (by omega)),(b4.block _ (by omega)).trans e1,(b4.block _ (by omega)).trans e3,k4⟩;have hk:W4.heap[w.heap.size+1]? = some (Obj.cells #[.int .i64 0, .slice none 0 0] 228 (0,0)):=(b4.block _ (by omega)).trans e2
 have hlz:(W3.alloc (Obj.cells zrC 234)).heap[w.heap.size+1+1+1]? = some (Obj.cells zrC 234 (0,0)):=by rw[←hs3];exact heap_alloc_last _ _
 have hsr:(W3.alloc (Obj.cells zrC 234)).setRow (w.heap.size+1+1+1) C=W4:=by rw[←hs3,hW4];exact World.setRow_alloc_new _ _ _ _
 have HHK:=zx hk;have HE1:=zx e1;have HHC:=zx hC;have HS3:=zx hs3;have HLZ:=zx hlz;have HSR:=zx hsr;have HW3:=zx hW3;clear hb3 e1 e2 e3 hs3 b4 k4 hW4 hk hlz hsr hW3 hC
 have hCe:Hid (Value.agg #[.int .i64 (m:Int), .int .i64 (f:Int), .int .i64 (bk:Int), .int .i64 (n:Int), .int .i64 (kp:Int), .int .i64 (bt:Int), .int .i64 0, .slice none 0 0, .slice none 0 0, .slice none 0 0, .slice none 0 0, .slice none 0 0, .slice none 0 0, .slice none 0 0, .slice none 0 0, .slice none 0 0, .slice none 0 0, .int .i64 0, .bool false, .slice none 0 0]=Value.agg C):=by show _=_;rw[HHC.out];rfl
 have hlz2:=HLZ.out;have hw3:=HW3.out;unfold zrC at hw3
 go_enter Tryz.func124,Tryz.ntmps124
 go_upto_region 1 with fail
 rw[←hw3];clear hw3;obtain⟨d0,_⟩:=zy (j:=0) (u:=.int .i64 (m:Int)) HE1.out rfl;obtain⟨d1,_⟩:=zy (j:=1) (u:=.int .i64 (f:Int)) HE1.out rfl;obtain⟨d2,_⟩:=zy (j:=2) (u:=.int .i64 (bk:Int)) HE1.out rfl;obtain⟨d3,_⟩:=zy (j:=3) (u:=.int .i64 (n:Int)) HE1.out rfl;obtain⟨d4,_⟩:=zy (j:=4) (u:=.int .i64 (kp:Int)) HE1.out rfl;obtain⟨d5,_⟩:=zy (j:=5) (u:=.int .i64 (bt:Int)) HE1.out rfl;have vu:=HS3.out
 go_upto_region 2 with(first
  | (refine wpList_store_row rfl 234 (.tmp 5) (.tmp 9) rfl (w.heap.size+1+1+1) C rfl hCe.out 234 zrC HLZ.out hsz hzC h1C ?_))
 have hsr':=HSR.out;unfold zrC at hsr';rw[hsr'];clear hsr' hlz2 d0 d1 d2 d3 d4 d5 HE1;obtain⟨k0,_⟩:=zy (j:=0) (u:=.int .i64 0) HHK.out rfl;obtain⟨k1,_⟩:=zy (j:=1) (u:=.slice none 0 0) HHK.out rfl;have CK:=zx (vI (w:=W4) (B:=0) (c:=0) (av:=.slice none 0 0) (all:=[]) (World.ownsRow_nil _ _ _ _) (by simp))
 have F2:Hid (∀W5 v5,W5.ownsRow W4.heap.size 66 3 v5 0 []→Below W4.heap.size W4 W5→NwX w W5 w.heap.size #[.int .i64 (m:Int), .int .i64 (f:Int), .int .i64 (bk:Int), .int .i64 (n:Int), .int .i64 (kp:Int), .int .i64 (bt:Int)] C∧W5.heap[w.heap.size+1]? = some (Obj.cells #[.int .i64 0, .slice none 0 0] 228 (0,0))∧∀W6,W6=(W5.setCell ⟨w.heap.size+1+1+1,6,none⟩ (.int .i64 0)).setCell ⟨w.heap.size+1+1+1,7,none⟩ v5→NwX w W6 w.heap.size #[.int .i64 (m:Int), .int .i64 (f:Int), .int .i64 (bk:Int), .int .i64 (n:Int), .int .i64 (kp:Int), .int .i64 (bt:Int)] (mP m f bk n kp bt v5 (.slice none 0 0))∧W6.ownsRow w.heap.size 66 3 v5 0 []):=by
  intro W5 v5 o5 b5;have x5:=HX.out.below b5;have hlt:=(Mth.gI HX.out.x);have hk5:=(b5.block _ (by omega)).trans HHK.out;refine⟨x5,hk5,fun W6 hW6=>?_⟩;subst hW6;have x6:=(x5.set 6 (.int .i64 0)).set 7 v5
  have e:(C.setIfInBounds 6 (.int .i64 0)).setIfInBounds 7 v5=mP m f bk n kp bt v5 (.slice none 0 0):=by rw[HHC.out];rfl
  rw[e]at x6;exact⟨x6,zW (zl (zl o5 x5.x (by decide)) (x5.set 6 _).x (by decide)) (by omega)⟩
 have hC6:C[6]? = some (.int .i64 0):=by rw[HHC.out];rfl
 have hC7:C[7]? = some (.slice none 0 0):=by rw[HHC.out];rfl
 clear HHK HLZ HSR HW3 hCe;generalize hnn:w.heap.size=nb at *;have HNB:=zx hnn;clear hnn
 go_upto_region 6 with(first|(go_at_call 199;refine CK.out.mono ?_;rintro e W5 ⟨av',rfl,o5,b5⟩;obtain⟨x5,k5,h6⟩:=F2.out W5 av' o5 b5;obtain⟨p6,q6⟩:=zy x5.x hC6;obtain⟨p7,q7⟩:=zy x5.x hC7;obtain⟨l1,_⟩:=zy (j:=1) (u:=.slice none 0 0) k5 rfl;have H6:=zx h6;obtain⟨a5,c5,rfl,_,_⟩:=zu o5;clear o5 b5 x5 k5 h6))
 obtain⟨W6,hW6⟩:∃W6,W6=(W5.setCell ⟨nb+1+1+1,6,none⟩ (.int .i64 0)).setCell ⟨nb+1+1+1,7,none⟩ (.slice a5 0 c5):=⟨_,rfl⟩;obtain⟨x6,o6⟩:=H6.out W6 hW6;rw[←hW6];clear hW6 H6 F2 CK p6 q6 p7 q7 l1 HX k0 k1;have HX6:=zx x6;have HO6:=zx o6;clear x6 o6
 have NX:Hid (∀wr k v W7 v7,NwX w wr nb #[.int .i64 (m:Int), .int .i64 (f:Int), .int .i64 (bk:Int), .int .i64 (n:Int), .int .i64 (kp:Int), .int .i64 (bt:Int)] (mP m f bk n kp bt (.slice a5 0 c5) v)→wr.ownsRow nb 66 3 (.slice a5 0 c5) 0 []→wr.ownsRow nb 304 3 v k (sU k)→(wr.alloc (Obj.cells #[.slice none 0 0, .int .i64 (-1), .int .i64 0] 304)).grownBy W7 v.ownBlock→W7.ownsRow nb 304 3 v7 (k+1) (sU k++[.slice none 0 0, .int .i64 (-1), .int .i64 0])→(W7.cell? ⟨nb+1+1+1,15,none⟩=some v∧W7.frozen? ⟨nb+1+1+1,15,none⟩=false)∧NwX w (W7.setCell ⟨nb+1+1+1,15,none⟩ v7) nb #[.int .i64 (m:Int), .int .i64 (f:Int), .int .i64 (bk:Int), .int .i64 (n:Int), .int .i64 (kp:Int), .int .i64 (bt:Int)] (mP m f bk n kp bt (.slice a5 0 c5) v7)∧(W7.setCell ⟨nb+1+1+1,15,none⟩ v7).ownsRow nb 66 3 (.slice a5 0 c5) 0 []∧(W7.setCell ⟨nb+1+1+1,15,none⟩ v7).ownsRow nb 304 3 v7 (k+1) (sU (k+1))):=by
  intro wr k v W7 v7 x oe ow g7 o7;have t7:=lZ g7;have hlt:=(Mth.gI x.x)
  have ne:∀b C' t,wr.heap[b]? = some (Obj.cells C' t (0,0))→t≠304→¬some b=v.ownBlock:=fun b C' t hb ht q=>by
   obtain⟨_,_,D,hD⟩:=zw ow q;exact ht (zc hb hD)
  have x7:NwX w W7 nb _ _:=⟨⟨t7.os.trans x.bel.os,t7.tape.trans x.bel.tape,t7.output.trans x.bel.output,Nat.le_trans x.bel.size t7.size,fun b hb=>(t7.block b (by omega) (fun q=>by have:=(zw ow q).1;omega)).trans (x.bel.block b hb)⟩,(t7.block _ (by omega) (ne _ _ _ x.src (by decide))).trans x.src,(t7.block _ (by omega) (ne _ _ _ x.res (by decide))).trans x.res,(t7.block _ hlt (ne _ _ _ x.x (by decide))).trans x.x⟩;refine⟨zy (j:=15) x7.x rfl,x7.set 15 v7,zl (zn oe (fun g hg=>t7.block g (zw oe hg).2.1 (by obtain⟨_,_,D,hD⟩:=zw oe hg;exact ne _ _ _ hD (by decide)))) x7.x (by decide),zl ?_ x7.x (by decide)⟩;unfold sU at o7 ⊢;rw[List.range_succ,List.flatMap_append]
  simpa using o7
 go_wp2_with fail
 go_loopw [7] (fun i wr=>∃k:Nat,k≤n∧i=.int .i64 k∧∃v,NwX w wr nb #[.int .i64 (m:Int), .int .i64 (f:Int), .int .i64 (bk:Int), .int .i64 (n:Int), .int .i64 (kp:Int), .int .i64 (bt:Int)] (mP m f bk n kp bt (.slice a5 0 c5) v)∧wr.ownsRow nb 66 3 (.slice a5 0 c5) 0 []∧wr.ownsRow nb 304 3 v k (sU k)) (fun i _=>n-(intOf i).toNat)
 case atStart=>exact⟨0,Nat.zero_le _,rfl,_,HX6.out,HO6.out,World.ownsRow_nil _ _ _ _⟩
 case round=>
  obtain⟨k,hk,rfl,v,x,oe,ow⟩:=hrel;obtain⟨d3,_⟩:=zy (j:=3) (u:=.int .i64 (n:Int)) x.src rfl;have HXX:=zx x;have HOE:=zx oe;have HOW:=zx ow;by_cases hlt:k<n
  ·obtain⟨d15,_⟩:=zy (j:=15) (u:=v) x.x rfl;have hnx:=NX.out wr k v;obtain⟨av,cv,rfl,_,_⟩:=zu ow
   have HNX:Hid (∀W7 v7,_):=fun W7 v7=>hnx W7 v7 x oe ow
   have hsz':nb≤wr.heap.size:=by have:=(Mth.gI x.x);omega
   clear x oe ow hnx;generalize sU k=xs at *;go_wp2_with (first|(at_builtin;refine zb _ rfl _ _ 230 rfl nb 0 304 p0 (.agg #[.slice none 0 0, .int .i64 0, .int .i64 0]) 3 40 Tryz.underlying230 hp0 hq0 hq1 hq2 rfl (by decide) _ _ _ rfl (zq HOW.out (zv _ _)) _ _ _ rfl (World.ownsRow_lit wr #[.slice none 0 0, .int .i64 (-1), .int .i64 0] 1 (Nat.zero_le _) (by decide) rfl) (by intro u hu;simp at hu;rcases hu with rfl|rfl|rfl <;> rfl) (by unfold maxLen;omega) (by omega) (by simp;omega) ?_;intro v7 W7 o7 g7 n7;obtain⟨⟨r0,r1⟩,r2⟩:=HNX.out W7 v7 g7 o7;have HR2:=zx r2;obtain⟨b6,d6,rfl,_,_⟩:=zu o7;clear r2 o7 g7 n7))
   go_roundw
   case rel=>exact⟨k+1,by omega,by go_num,_,HR2.out⟩
   case measure=>simp[intOf];omega
  ·have hkn:k=n:=by omega
   obtain⟨D,hD⟩:∃D,D=mP m f bk n kp bt (.slice a5 0 c5) v:=⟨_,rfl⟩;rw[←hD]at x
   have hDs:(Tryz.prog.info? 234).map (·.size)=some D.size:=by rw[hD];exact Tryz.sizeLog
   have hDz:zrC.size=D.size:=by rw[hD];rfl
   have hone:D.all (·.oneCell')=true:=by
    obtain⟨a,c,e,_,_⟩:=zu ow;rw[hD,e];simp[mP,Value.oneCell']
   have dx:=x.x;have dr:=x.res;have HK:=zx hkn;have HD:=zx hD;have HX9:=zx x;clear x oe ow hkn hD HXX
   go_wp2_with (first
    | (refine wpList_load_row rfl 234 (.tmp 5) rfl (nb+1+1+1) rfl 234 D (0,0) _ dx Tryz.underlying234 rfl hDs ?_)
    | (refine wpList_store_row rfl 234 (.tmp 4) (.tmp 36) rfl (nb+1+1) D rfl rfl 234 zrC dr hDs hDz hone ?_))
   have r1:=oJ (D:=D) HX9.out.res;have hld:=run_loadVar_row (P:=Tryz.prog) (wr.setRow (nb+1+1) D) (nb+1+1) 234 234 D (0,0) _ r1 Tryz.underlying234 rfl hDs;refine bodyPost_ret (v:=.agg D) ?_ rfl ⟨_,_,by rw[HD.out],?_,?_,?_⟩
   ·rw[za rfl];simp[Act.put,asAddr,Result.andThen,hld]
   ·rw[HNB.out];exact we HOE.out HX9.out.res (by decide)
   ·rw[HNB.out,←HK.out];exact we HOW.out HX9.out.res (by decide)
   ·rw[HNB.out];have b:=HX9.out.bel;exact⟨b.os,b.tape,b.output,by simpa [World.setRow] using b.size,fun g hg=>(tt (by omega)).trans (b.block g hg)⟩
theorem nV:∀(l:List UInt8) (cur:List UInt8),(∀u∈l,xH (u.toNat:Int)=(u.toNat:Int)∧xH (u.toNat:Int)≠0)→cur++l≠[]→Mth.cut cur (l.map (fun u=>(u.toNat:Int)))=[cur++l]
 | [],cur,_,hn=>by
  rw[List.map_nil,Mth.cut,List.append_nil];rw[List.append_nil]at hn
  cases cur with
  | nil=>exact absurd rfl hn
  | cons a c=>rfl
 | u::l,cur,h,hn=>by
  obtain⟨h1,h2⟩:=h u (by simp);rw[List.map_cons,Mth.cut,if_neg h2,h1]
  have hu:UInt8.ofNat ((u.toNat:Int)).toNat=u:=by simp
  rw[hu,nV l (cur++[u]) (fun v hv=>h v (by simp[hv])) (by simp)];simp
theorem nx:∀l:List Int,(vE l).length≤l.length
 | []=>Nat.le_refl _
 | c::l=>by
  rw[vE];split
  ·simp
  ·simp[nx l]
theorem qe:∀l:List UInt8,vE (l.map (fun u=>(u.toNat:Int)))=l→∀u∈l,xH (u.toNat:Int)=(u.toNat:Int)∧xH (u.toNat:Int)≠0
 | [],_,u,hu=>by cases hu
 | a::l,h,u,hu=>by
  rw[List.map_cons,vE]at h;by_cases h0:xH (a.toNat:Int)=0
  ·rw[if_pos h0]at h;cases h
  ·rw[if_neg h0]at h
   injection h with h1 h2
   rcases List.mem_cons.1 hu with e|hu
   ·subst e;refine⟨?_,h0⟩
    have hb:0≤xH (u.toNat:Int)∧xH (u.toNat:Int)<256:=by
     have:=u.toNat_lt;unfold xH;split
     ·omega
     ·split
      ·omega
      ·omega
    have:=congrArg UInt8.toNat h1;simp at this;omega
   ·exact qe l h2 u hu
theorem dm (x:ByteArray):yB x=true↔x.size≤60∧x.size≠0∧∀u∈x.data.toList,xH (u.toNat:Int)=(u.toNat:Int)∧xH (u.toNat:Int)≠0:=by
 have hsz:x.size=x.data.toList.length:=by simp
 unfold yB;simp only[decide_eq_true_eq];constructor
 ·rintro ⟨h1,h2⟩
  have hm:x∈(Mth.cut [] (tb x)).map wN:=by
   have:=(gR x);rw[h2]at this
   have hx:x∈yi ((Mth.cut [] (tb x)).map wN):=by rw[←this];simp
   exact((yc _).2 x).1 hx
  obtain⟨y,hy,hxy⟩:=List.mem_map.1 hm
  have hyx:y=x.data.toList:=by rw[←hxy];simp[wN]
  obtain⟨hne,hc⟩:=(pU _ _ _).1 hy;have hl:(tb x).length=x.size:=xS x;refine⟨h1,by rw[hsz,←hyx];intro e;exact hne (List.eq_nil_of_length_eq_zero e),?_⟩
  rcases hc with hc|⟨p,c,q,hp,_,hc⟩
  ·refine qe _ ?_;show vE (tb x)=_;rw[←hyx,hc,List.nil_append]
  ·exfalso;have e1:=nx q;rw[←hc,hyx,←hsz,←hl,hp]at e1;simp at e1;omega
 ·rintro ⟨h1,h2,h3⟩;refine⟨h1,dK x ?_⟩;have:=nV x.data.toList [] h3 (by rw[List.nil_append];intro e;apply h2;rw[hsz,e];rfl);rw[List.nil_append]at this;exact this
theorem xU (x:ByteArray) (w:World) (hx:x.size≤1099511627776) :
  Calls Tryz.prog 248 #[.string x] w fun e w'=>e=.returned (.bool (yB x))∧w'=w:=by
 have HIFF:=zx (dm x);have HL:=zx (xS x);have HBT:=zx (uA x)
 have HG:Hid (∀k,k<x.size→∃u∈x.data.toList,(tb x).getD k 0=((u:UInt8).toNat:Int)):=fun k hk=>by
  refine⟨x.data.toList.getD k 0,?_,qD x k hk⟩
  have hk':k<x.data.toList.length:=by simpa using hk
  rw[←List.getElem_eq_getD (h:=hk')];exact List.getElem_mem hk'
 have HA:Hid ((∀k,k<x.size→xH ((tb x).getD k 0)=(tb x).getD k 0∧xH ((tb x).getD k 0)≠0)→∀u∈x.data.toList,xH (u.toNat:Int)=(u.toNat:Int)∧xH (u.toNat:Int)≠0):=fun h u hu=>by
  obtain⟨k,hk,e⟩:=List.mem_iff_getElem.1 hu
  have hk':k<x.size:=by simpa using hk
  have:=h k hk';rw[qD x k hk',←List.getElem_eq_getD (h:=hk),e]at this;exact this
 go_enter Tryz.func248,Tryz.ntmps248
 go_wp2_with fail
 go_loopw [3] (fun i wr=>∃k:Nat,k≤x.size∧i=.int .i64 k∧wr=w∧∀j,j<k→xH ((tb x).getD j 0)=(tb x).getD j 0∧xH ((tb x).getD j 0)≠0) (fun i _=>x.size-(intOf i).toNat)
 case atStart=>exact⟨0,Nat.zero_le _,rfl,rfl,fun j hj=>absurd hj (Nat.not_lt_zero _)⟩
 case round=>
  obtain⟨k,hk,rfl,hwr,hgood⟩:=hrel;rw[hwr];have HWR:=zx hwr;have HGO:=zx hgood;clear hwr hgood;by_cases hlt:k<x.size
  ·have hidx:=ly x k hlt;have hbt:=sd HBT.out k;have CL:=zx (ry ((tb x).getD k 0) w hbt.1 hbt.2);have hlb:=gH ((tb x).getD k 0);obtain⟨u,hu,hue⟩:=HG.out k hlt;generalize hcc:(tb x).getD k 0=c at *;have HCC:=zx hcc;clear hcc;generalize hll:xH c=d at *;have HLL:=zx hll;have HUE:=zx hue;clear hll hue;by_cases hdc:d=c
   ·by_cases hd0:d=0
    ·have hf:yB x=false:=by
      rw[Bool.eq_false_iff];intro ht;have:=(HIFF.out.1 ht).2.2 u hu;rw[←HUE.out,HLL.out]at this;exact this.2 hd0
     have HF:=zx hf;subst hdc;subst hd0;clear hf;go_wp2_with (first|(go_at_call 189;refine CL.out.mono ?_;rintro e W ⟨rfl,hW⟩;rw[hW];clear hW W));go_ret;exact⟨by rw[HF.out];rfl,rfl⟩
    ·subst hdc
     have hd0':(d == 0)=false:=by simpa using hd0
     go_wp2_with (first|(go_at_call 189;refine CL.out.mono ?_;rintro e W ⟨rfl,hW⟩;rw[hW];clear hW W))
     go_roundw
     case rel=>exact⟨k+1,by omega,by go_num,trivial,fun j hj=>by
      by_cases e:j=k
      ·subst e;rw[HCC.out];exact⟨HLL.out,by rw[HLL.out];exact hd0⟩
      ·exact HGO.out j (by omega)⟩
     case measure=>simp[intOf];omega
   ·have hf:yB x=false:=by
     rw[Bool.eq_false_iff];intro ht;have:=(HIFF.out.1 ht).2.2 u hu;rw[←HUE.out,HLL.out]at this;exact hdc this.1
    have HF:=zx hf;clear hf
    have hne:(d == c)=false:=by simpa using hdc
    go_wp2_with (first|(go_at_call 189;refine CL.out.mono ?_;rintro e W ⟨rfl,hW⟩;rw[hW];clear hW W));go_ret;exact⟨by rw[HF.out];rfl,rfl⟩
  ·obtain rfl:k=x.size:=by omega
   have hall:=HA.out HGO.out
   have hemp:(x.toList == ([]:List UInt8))=decide (x.size=0):=by
    rw[Lib.toList_data,Bool.eq_iff_iff]
    have hl:x.size=x.data.toList.length:=by simp
    rw[hl]
    cases x.data.toList <;> simp
   by_cases he:x.size=0
   ·have hf:yB x=false:=by
     rw[Bool.eq_false_iff];intro ht;exact(HIFF.out.1 ht).2.1 he
    have HF:=zx hf;rw[decide_eq_true he]at hemp;clear hf hall;go_wp2_with fail;go_ret;exact⟨by rw[HF.out];rfl,rfl⟩
   ·rw[decide_eq_false he]at hemp
    have hf:yB x=decide (x.size≤60):=by
     rw[Bool.eq_iff_iff,HIFF.out,decide_eq_true_eq];exact⟨fun h=>h.1,fun h=>⟨h,he,hall⟩⟩
    have HF:=zx hf;clear hf hall;by_cases h6:x.size≤60
    ·have hd6:decide ((x.size:Int)≤60)=true:=decide_eq_true (by omega);go_wp2_with fail;go_ret;refine⟨?_,rfl⟩;rw[HF.out,decide_eq_true h6]
     first|rfl|(show Ending.returned (Value.bool (decide ((x.size:Int)≤60)))=_;rw[hd6])
    ·have hd6:decide ((x.size:Int)≤60)=false:=decide_eq_false (by omega);go_wp2_with fail;go_ret;refine⟨?_,rfl⟩;rw[HF.out,decide_eq_false h6]
     first|rfl|(show Ending.returned (Value.bool (decide ((x.size:Int)≤60)))=_;rw[hd6])
end Go.Proofs.YtkncboinfcnklaaGreatDoor.Rl
