import Derived.Test.YtkncboinfcnklaaGreatDoorQ3
import Derived.Laws.Strings2
import Derived.Deep.QuietTactic
import Derived.BigQuiet
import Derived.Maps.AppendAt
set_option maxRecDepth 100000
set_option maxHeartbeats 8000000
namespace Go.Proofs.YtkncboinfcnklaaGreatDoor
open Go.RowKit Go.Deep Go.Proofs.YtkncboinfcnklaaGreatDoor.Mth
theorem dM (q:Int):num q 1=[q % 256]:=by simp[num]
def zV (l:List Ent) (x:ByteArray) (k:Nat):List Int:=((List.range k).filter (fun i=>ym x (wd (l.getD i e0).text))).map (fun i:Nat=>(i:Int))
theorem az {p:Nat→Bool}{k:Nat}:[k].filter p=if p k then [k] else []:=by
 cases h:p k <;> simp[List.filter,h]
theorem ni {l:List Ent}{x:ByteArray}{k:Nat}(h:ym x (wd (l.getD k e0).text)=false):zV l x (k+1)=zV l x k:=by
 unfold zV;rw[List.range_succ,List.filter_append,az,h,List.map_append];simp only[Bool.false_eq_true,if_false,List.map_nil,List.append_nil]
theorem qV {l:List Ent}{x:ByteArray}{k:Nat}(h:ym x (wd (l.getD k e0).text)=true):zV l x (k+1)=zV l x k++[(k:Int)]:=by
 unfold zV;rw[List.range_succ,List.filter_append,az,h,List.map_append];simp only[if_true,List.map_cons,List.map_nil]
theorem tf (l:List Ent) (x:ByteArray) (k:Nat):(zV l x k).length≤k:=by
 unfold zV;rw[List.length_map];exact Nat.le_trans (List.length_filter_le _ _) (by simp)
theorem kh (l:List Ent) (x:ByteArray):zV l x l.length=ub (ws l) x:=by
 unfold zV ub
 have hw:(ws l).length=l.length:=by simp[ws]
 rw[hw];congr 1;apply List.filter_congr;intro i hi;have hi':=List.mem_range.1 hi
 have e:(ws l).getD i []=wd (l.getD i e0).text:=by simp[ws,List.getD,hi']
 have key:ym x (wd (l.getD i e0).text)=true↔x∈(ws l).getD i []:=by rw[e];exact memD_iff
 exact Bool.eq_iff_iff.2 (key.trans (@decide_eq_true_iff _ (_)).symm)
def uq (l:List Ent) (x:ByteArray):List Int:=(((x.size:Int) % 256)::tb x)++((((zV l x l.length).length:Int) % 256)::zV l x l.length)
theorem km {l:List Ent}{W:List ByteArray}{k:Nat}(h:k<W.length):yt (W.take (k+1)) (ws l)=yt (W.take k) (ws l)++uq l (W.getD k ByteArray.empty):=by
 have snoc:∀(xs:List ByteArray) (x:ByteArray),yt (xs++[x]) (ws l)=yt xs (ws l)++uq l x:=by
  intro xs x
  induction xs with
  | nil=>simp[yt,uq,kh]
  | cons y ys ih=>rw[List.cons_append,yt,yt,ih];simp
 rw[List.take_succ_eq_append_getElem h,snoc];simp[List.getD,h]
theorem dj (l:List Ent) (W:List ByteArray) (k:Nat):(yt (W.take k) (ws l)).length≤(yt W (ws l)).length:=by
 have app:∀(xs ys:List ByteArray),yt (xs++ys) (ws l)=yt xs (ws l)++yt ys (ws l):=by
  intro xs ys
  induction xs with
  | nil=>simp[yt]
  | cons y zs ih=>rw[List.cons_append,yt,yt,ih];simp
 conv=>rhs;rw[←List.take_append_drop k W,app,List.length_append]
 omega
def mG (l:List Ent) (k:Nat):List ByteArray:=((l.take k).map (fun e=>wd e.text)).flatten
theorem jK {l:List Ent}{k:Nat}(h:k<l.length):mG l (k+1)=mG l k++wd (l.getD k e0).text:=by
 unfold mG;rw[List.take_succ_eq_append_getElem h,List.map_append,List.flatten_append];simp[List.getD,h]
theorem bX (l:List Ent):wy l=hd l++(num (mw l).length 2++yt (mw l) (ws l)):=by unfold wy;rw[aE]
theorem qM (n:Int) (many:Nat) (h0:0≤n) (h1:n<9223372036854775808) (hm:many≤8) (W:World):∀d os,Calls Tryz.prog 165 #[.int .i64 n, .int .i64 many] (Sort.grow (redrawn W d) os) fun e w''=>e=.returned (.string (strOfNums (num n many)))∧∃p:Regrown,w''=Sort.grow (redrawn W p.d) p.os:=
 fun _ _=>Calls.regrown_of (yE n many _ h0 h1 hm)
theorem rq (n:Int) (h0:0≤n) (h1:n<9223372036854775808) (W:World):∀d os,Calls Tryz.prog 165 #[.int .i64 n, .int .i64 8] (Sort.grow (redrawn W d) os) fun e w''=>e=.returned (.string (strOfNums (num n 8)))∧∃p:Regrown,w''=Sort.grow (redrawn W p.d) p.os:=qM n 8 h0 h1 (by omega) W
theorem ug (n:Int) (h0:0≤n) (h1:n<9223372036854775808) (W:World):∀d os,Calls Tryz.prog 165 #[.int .i64 n, .int .i64 1] (Sort.grow (redrawn W d) os) fun e w''=>e=.returned (.string (strOfNums (num n 1)))∧∃p:Regrown,w''=Sort.grow (redrawn W p.d) p.os:=qM n 1 h0 h1 (by omega) W
theorem fJ {l:List ByteArray}{k:Nat}(h:k<l.length) (x:ByteArray):x∈l.take (k+1)↔x∈l.take k∨x=l.getD k ByteArray.empty:=by
 rw[List.take_succ_eq_append_getElem h,List.mem_append,List.mem_singleton];simp only[List.getD,List.getElem?_eq_getElem h,Option.getD_some]
theorem iO (a:Option Addr) (c:Nat) (l:List Ent) (w:World) (h:RdE w (.slice a l.length c) l) (hS:dQ l) :
  Calls Tryz.prog 103 #[.slice a l.length c] w fun e w'=>e=.returned (.string (strOfNums (pk l)))∧Below w.heap.size w w':=by
 have HR:=zx h;have HS:=zx hS;have h64:=hS.2.1;have h1:=hS.1;have HBL:=zx (nS hS);have HBT:=zx (dU l hS.2.1);clear h hS;generalize hn:l.length=n at *;have HN:=zx hn;have hhd:Hid (hd l=num l.length 2++(l.map oj).flatten):=rfl;rw[hn]at hhd;clear hn
 go_enter Tryz.func103,Tryz.ntmps103
 go_wp2_with (first|(go_at_call 165;refine(yE (n:Int) 2 _ (by omega) (by omega) (by omega)).mono ?_;rintro e w1 ⟨rfl,hb1⟩;have HB1:=zx hb1;clear hb1))
 go_loopw [3,4,5] (fun sv av i wr=>∃(k:Nat) (m:List ByteArray),k≤n∧i=.int .i64 k∧sv=.string (strOfNums (num n 2++((l.take k).map oj).flatten))∧Below w.heap.size w wr∧Rd wr av m∧m.Pairwise rW∧(∀x,x∈m↔x∈mG l k)∧m.length≤61*k) (fun _ _ i _=>n-(intOf i).toNat)
 case atStart=>exact⟨0,[],Nat.zero_le _,rfl,by simp,HB1.out,⟨none,0,rfl,Nat.le_refl _,by unfold maxLen;omega,fun _=>rfl,Or.inl rfl⟩,List.Pairwise.nil,fun x=>by simp[mG],Nat.zero_le _⟩
 case round=>
  obtain⟨k,m,hk,rfl,rfl,hb,hrd,hup,hall,hml⟩:=hrel;by_cases hlt:k<n
  ·obtain⟨b,o,rfl,hblt,c0,c1,c2⟩:=uw HR.out k (by rw[HN.out];exact hlt);have c0':=(hb.cell (p:=⟨b,o+k*3,none⟩) hblt).trans c0;have c1':=(hb.cell (p:=⟨b,o+k*3+1,none⟩) hblt).trans c1;have c2':=(hb.cell (p:=⟨b,o+k*3+2,none⟩) hblt).trans c2;have hie:dR (l.getD k e0)=true:=kA HS.out _ (by rw[List.getD,List.getElem?_eq_getElem (by rw[HN.out];exact hlt)];exact List.getElem_mem _);have HTK:=zx (iA (l:=l) (k:=k) (by rw[HN.out];exact hlt));have HWS:=zx (jK (l:=l) (k:=k) (by rw[HN.out];exact hlt))
   have hl1:(num n 2++((l.take k).map oj).flatten).length≤524288:=by
    have q1:=sG (l.take k) (fun e he=>wV HS.out e (List.mem_of_mem_take he));rw[List.length_append,yo];rw[List.length_take]at q1;omega
   have HSS:Hid (num n 2++((l.take (k+1)).map oj).flatten=(num n 2++((l.take k).map oj).flatten)++oj (l.getD k e0)):=by show _=_;rw[HTK.out,←List.append_assoc]
   generalize num n 2++((l.take k).map oj).flatten=S at *;generalize l.getD k e0=e at *;obtain⟨s,t,x⟩:=e;obtain⟨y0,y1,y2,y3,y4⟩:=pf hie;simp only at c0' c1' c2';have HB:=zx hb;have HRD:=zx hrd;have HU:=zx hup;have HA:=zx hall;clear hb hrd hup hall c0 c1 c2 hie;have d0:=cell_regrown c0';have d1:=cell_regrown c1';have d2:=cell_regrown c2';have N1:=zx (rq s (by omega) (by omega) wr);have N2:=zx (rq t (by omega) (by omega) wr);have N3:=zx (ug (x.size:Int) (by omega) (by omega) wr)
   have a1:=fun w=>xP S (num s 8) w (by rw[yo];omega)
   have a2:=fun w=>xP (S++num s 8) (num t 8) w (by simp only[List.length_append,yo];omega)
   have a3:=fun w=>xP (S++num s 8++num t 8) (num (x.size:Int) 1) w (by simp only[List.length_append,yo];omega)
   have a4:=fun w=>xP (S++num s 8++num t 8++num (x.size:Int) 1) (tb x) w (by simp only[List.length_append,yo,xS];omega)
   rw[bD]at a4
   have HFS:Hid (S++oj ⟨s,t,x⟩=S++num s 8++num t 8++num (x.size:Int) 1++tb x):=by
    show _=_;rw[dM];unfold oj;simp only[List.append_assoc,List.singleton_append]
   clear c0' c1' c2' HTK;generalize hS4:strOfNums (S++num s 8++num t 8++num (x.size:Int) 1++tb x)=S4 at *;generalize hS3:strOfNums (S++num s 8++num t 8++num (x.size:Int) 1)=S3 at *;generalize hS2:strOfNums (S++num s 8++num t 8)=S2 at *;generalize hS1:strOfNums (S++num s 8)=S1 at *;generalize hS0:strOfNums S=S0 at *;generalize hB1:strOfNums (num s 8)=B1 at *;generalize hB2:strOfNums (num t 8)=B2 at *;generalize hB3:strOfNums (num (x.size:Int) 1)=B3 at *;have HS4:=zx hS4;clear hS4 hS3 hS2 hS1 hS0 hB1 hB2 hB3;go_wp2;refine wp_region_quiet_below (by kernel_rfl) (by kernel_rfl) ?_
   repeat(go_big_quiet_step (first|(go_at_call_of 165 (Value.int IntKind.i64 s);exact N1.out _ _)|(go_at_call_of 165 (Value.int IntKind.i64 t);exact N2.out _ _)|(go_at_call_of 165 (Value.int IntKind.i64 (x.size:Int));exact N3.out _ _)))
   refine wpQuiet_nil ?_;intro _ hw';obtain⟨⟨dq,osq⟩,hw''⟩:=hw';subst hw'';have e2:=d2 dq osq;have HB2:=zx (below_regrown wr dq osq);have HR2:=zx (HRD.out.below HB2.out);clear d0 d1 d2 N1 N2 N3 a1 a2 a3 a4;generalize Sort.grow (redrawn wr dq) osq=w2 at *;have hxl:=qG x;have HB20:=zx (HB.out.trans (HB2.out.mono HB.out.size));go_wp2_with (first|(go_at_call 109;refine(uI x _ (by omega)).mono ?_;rintro e w3 ⟨v3,rfl,hb3,hr3⟩;have HB3:=zx hb3;have HX:=zx hr3;clear hb3 hr3));obtain⟨xa,xc,rfl,hxc,hxm⟩:=wK HX.out;unfold maxLen at hxm;have HR3:=zx (HR2.out.below HB3.out);have HB30:=zx (HB20.out.trans (HB3.out.mono HB20.out.size));generalize hL:wd x=X at *;generalize hXn:X.length=xn at *;have HXN:=zx hXn;clear hXn hL
   go_loopw [4,7] (fun av i wr=>∃(j:Nat) (m':List ByteArray),j≤xn∧i=.int .i64 j∧Below w3.heap.size w3 wr∧Rd wr av m'∧m'.Pairwise rW∧(∀z,z∈m'↔z∈m∨z∈X.take j)∧m'.length≤61*k+j) (fun _ i _=>xn-(intOf i).toNat)
   case atStart=>exact⟨0,m,Nat.zero_le _,rfl,Below.refl _ _,HR3.out,HU.out,fun z=>by simp,by omega⟩
   case round=>
    obtain⟨j,m',hj,rfl,hb4,hr4,hu4,ha4,hl4⟩:=hrel;by_cases hjlt:j<xn
    ·obtain⟨b4,o4,rfl,hblt4,hcell4⟩:=qx (HX.out.below hb4) j (by rw[HXN.out];exact hjlt);have HTM:=zx (fun z=>fJ (l:=X) (k:=j) (by rw[HXN.out];exact hjlt) z);generalize X.getD j ByteArray.empty=y at *;have CP:=zx (vh y hr4 (by omega));have hpl:=oF y m';have HB4:=zx hb4;have HU4:=zx (js y m' hu4)
     have HA4:Hid (∀z,z∈vF y m'↔z∈m∨z∈X.take (j+1)):=by
      intro z;rw[oG,ha4 z,HTM.out z];constructor
      ·rintro (q|q|q)
       ·exact Or.inr (Or.inr q)
       ·exact Or.inl q
       ·exact Or.inr (Or.inl q)
      ·rintro (q|q|q)
       ·exact Or.inr (Or.inl q)
       ·exact Or.inr (Or.inr q)
       ·exact Or.inl q
     obtain⟨ma,mc,rfl,_,_⟩:=wK hr4;clear hb4 hu4 ha4 hr4;go_wp2_with (first|(go_at_call 166;refine CP.out.mono ?_;rintro e w5 ⟨v5,rfl,hb5,hr5⟩;have HB5:=zx hb5;have HR5:=zx hr5;clear hb5 hr5))
     go_roundw
     case rel=>exact⟨j+1,vF y m',by omega,by go_num,HB4.out.trans (HB5.out.mono HB4.out.size),HR5.out,HU4.out,HA4.out,by omega⟩
     case measure=>simp[intOf];omega
    ·have hje:j=xn:=by omega
     have HA4:Hid (∀z,z∈m'↔z∈mG l (k+1)):=by
      intro z;rw[ha4 z,List.take_of_length_le (by rw[HXN.out];omega),HWS.out,List.mem_append,HA.out z]
     have HB4:=zx (HB30.out.trans (hb4.mono HB30.out.size));have HR4:=zx hr4;have HU4:=zx hu4;clear hb4 hr4 hu4 ha4;go_wp2
     go_roundw
     case rel=>exact⟨k+1,m',by omega,by go_num,by rw[HSS.out,HFS.out,HS4.out],HB4.out,HR4.out,HU4.out,HA4.out,by omega⟩
     case measure=>simp[intOf];omega
  ·have hke:k=n:=by omega
   subst hke;have hfull:(l.take k)=l:=List.take_of_length_le (by rw[HN.out];exact Nat.le_refl _)
   have hmw:m=mw l:=by
    refine tM hup (fun x=>?_);rw[hall x];unfold mG ws;rw[hfull]
   subst hmw;rw[hfull,←hhd.out];have HBY:=zx (bX l);have hmlen:=hml;have HRD:=zx hrd;have HB:=zx hb;obtain⟨ma,mc,rfl,hmc,hmm⟩:=wK hrd;unfold maxLen at hmm;have HMS:=zx (fun x (hx:x∈mw l)=>jm l (wV HS.out) hx);generalize hmn:(mw l).length=mn at *;have HMN:=zx hmn
   have hbl:(hd l).length+2+(yt (mw l) (ws l)).length≤500000:=by
    have:=HBL.out;rw[HBY.out]at this;simp only[List.length_append,yo]at this;omega
   have ha0:=fun w=>xP (hd l) (num (mn:Int) 2) w (by rw[yo];omega)
   have HT0:Hid ((hd l++num (mn:Int) 2).length=(hd l).length+2):=by show _=_;rw[List.length_append,yo]
   have HBY2:Hid (wy l=(hd l++num (mn:Int) 2)++yt (mw l) (ws l)):=by show _=_;rw[HBY.out,List.append_assoc]
   clear hmn hup hall hrd hb hfull HBY;generalize hd l++num (mn:Int) 2=T0 at *;generalize strOfNums (hd l)=H0 at *;go_wp2_with (first|(go_at_call 165;refine(yE (mn:Int) 2 _ (by omega) (by omega) (by omega)).mono ?_;rintro e w4 ⟨rfl,hb4⟩;have HB4:=zx hb4;clear hb4));clear ha0;have HB40:=zx (HB.out.trans (HB4.out.mono HB.out.size));have HRD4:=zx (HRD.out.below HB4.out);have HR4:=zx (HR.out.below HB40.out)
   go_loopw [3,8] (fun sv i wr=>∃q:Nat,q≤mn∧i=.int .i64 q∧sv=.string (strOfNums (T0++yt ((mw l).take q) (ws l)))∧Below w4.heap.size w4 wr) (fun _ i _=>mn-(intOf i).toNat)
   case atStart=>exact⟨0,Nat.zero_le _,rfl,by simp[yt],Below.refl _ _⟩
   case round=>
    obtain⟨q,hq,rfl,rfl,hb5⟩:=hrel;have hil:=dj l (mw l) q;by_cases hqlt:q<mn
    ·obtain⟨b4,o4,rfl,hblt4,hcell4⟩:=qx HRD4.out q (by rw[HMN.out];exact hqlt);have hcell5:=(hb5.cell (p:=⟨b4,o4+q,none⟩) hblt4).trans hcell4;have HIT:=zx (km (l:=l) (W:=mw l) (k:=q) (by rw[HMN.out];exact hqlt));have hysz:=HMS.out ((mw l).getD q ByteArray.empty) (by rw[List.getD,List.getElem?_eq_getElem (by rw[HMN.out];exact hqlt)];exact List.getElem_mem _)
     have hone:Hid (uq l ((mw l).getD q ByteArray.empty)=((((mw l).getD q ByteArray.empty).size:Int) % 256::tb ((mw l).getD q ByteArray.empty))++((((zV l ((mw l).getD q ByteArray.empty) k).length:Int) % 256)::zV l ((mw l).getD q ByteArray.empty) k)):=by show _=_;unfold uq;rw[HN.out]
     have HSL:Hid ((T0++yt ((mw l).take q) (ws l)).length≤500000):=by show _≤_;rw[List.length_append,HT0.out];omega
     have HNX:Hid (T0++yt ((mw l).take (q+1)) (ws l)=(T0++yt ((mw l).take q) (ws l))++uq l ((mw l).getD q ByteArray.empty)):=by show _=_;rw[HIT.out,List.append_assoc]
     generalize T0++yt ((mw l).take q) (ws l)=S at *;generalize (mw l).getD q ByteArray.empty=y at *;generalize hS0:strOfNums S=S0 at *;have HS0:=zx hS0;have HB5:=zx hb5;have HR5:=zx (HR4.out.below hb5);clear hb5 hS0 HIT hcell4 hil;go_wp2_with fail
     go_loopw [9,10,11] (fun nv tv i wr'=>∃j:Nat,j≤k∧i=.int .i64 j∧nv=.int .i64 ((zV l y j).length:Int)∧tv=.string (strOfNums (zV l y j))∧Below wr.heap.size wr wr') (fun _ _ i _=>k-(intOf i).toNat)
     case atStart=>exact⟨0,Nat.zero_le _,rfl,by simp[zV],by simp[zV,strOfNums],Below.refl _ _⟩
     case round=>
      obtain⟨j,hj,rfl,rfl,rfl,hb6⟩:=hrel;have hul:=tf l y j;have hcell6:=(hb6.cell (p:=⟨b4,o4+q,none⟩) (World.block_lt_of_cell? _ _ hcell5)).trans hcell5;by_cases hjlt:j<k
      ·obtain⟨b,o,rfl,hblt,_,_,c2⟩:=uw (HR5.out.below hb6) j (by rw[HN.out];exact hjlt);have hxs:(l.getD j e0).text.size≤60:=wV HS.out _ (by rw[List.getD,List.getElem?_eq_getElem (by rw[HN.out];exact hjlt)];exact List.getElem_mem _);have HNO:=zx (fun h=>ni (l:=l) (x:=y) (k:=j) h);have HYES:=zx (fun h=>qV (l:=l) (x:=y) (k:=j) h);generalize (l.getD j e0).text=x at *;have CH0:=wI x y;generalize ym y (wd x)=hb at *;have CH:=zx (fun d os=>Calls.regrown_of (w:=wr) (d:=d) (os:=os) (CH0 _ (by omega)));have HB6:=zx hb6;have d1:=cell_regrown hcell6;have d2:=cell_regrown c2;clear CH0 hb6 hcell6 c2;go_wp2;refine wp_region_quiet_below (by kernel_rfl) (by kernel_rfl) ?_
       repeat(go_big_quiet_step (first|(go_at_call 167;exact CH.out _ _)))
       refine wpQuiet_nil ?_;intro _ hw';obtain⟨⟨dq,osq⟩,hw''⟩:=hw';subst hw'';have HB7:=zx (HB6.out.trans ((below_regrown wr dq osq).mono HB6.out.size));clear d1 d2 CH;generalize Sort.grow (redrawn wr dq) osq=w7 at *
       cases hb with
       | false=>
        have hno:=HNO.out rfl;go_wp2
        go_roundw
        case rel=>exact⟨j+1,by omega,by go_num,by rw[hno],by rw[hno],HB7.out⟩
        case measure=>simp[intOf];omega
       | true=>
        have HYS:=zx (HYES.out rfl)
        have ha1:=fun w=>xP (zV l y j) [(j:Int)] w (by simp;omega)
        have HN1:Hid (num (j:Int) 1=[(j:Int)]):=by show _=_;rw[dM,Int.emod_eq_of_lt (by omega) (by omega)]
        generalize zV l y j=U at *;go_wp2_with (first|(go_at_call 165;refine(yE (j:Int) 1 _ (by omega) (by omega) (by omega)).mono ?_;rintro e w8 ⟨rfl,hb8⟩;have HB8:=zx hb8;clear hb8;rw[HN1.out]))
        go_roundw
        case rel=>exact⟨j+1,by omega,by go_num,by rw[HYS.out,List.length_append,List.length_singleton];go_num,by rw[HYS.out],HB7.out.trans (HB8.out.mono HB7.out.size)⟩
        case measure=>simp[intOf];omega
      ·have hje:j=k:=by omega
       subst hje;have HB6:=zx hb6;clear hb6;generalize zV l y j=U at *;generalize hun:U.length=un at *;have HUN:=zx hun
       have HFS:Hid (S++uq l y=S++num (y.size:Int) 1++tb y++num (un:Int) 1++U):=by
        show _=_;rw[hone.out,dM,dM];simp only[List.append_assoc,List.nil_append,List.cons_append]
       have N1:=zx (ug (y.size:Int) (by omega) (by omega) wr);have N2:=zx (ug (un:Int) (by omega) (by omega) wr);have hsl:=HSL.out
       have a1:=fun w=>xP S (num (y.size:Int) 1) w (by rw[yo];omega)
       have a2:=fun w=>xP (S++num (y.size:Int) 1) (tb y) w (by simp only[List.length_append,yo,xS];omega)
       have a3:=fun w=>xP (S++num (y.size:Int) 1++tb y) (num (un:Int) 1) w (by simp only[List.length_append,yo,xS];omega)
       have a4:=fun w=>xP (S++num (y.size:Int) 1++tb y++num (un:Int) 1) U w (by simp only[List.length_append,yo,xS];omega)
       rw[bD]at a2;have d1:=cell_regrown hcell6;clear hcell6 hun;rw[HS0.out]at a1;generalize hS4:strOfNums (S++num (y.size:Int) 1++tb y++num (un:Int) 1++U)=S4 at *;generalize hS3:strOfNums (S++num (y.size:Int) 1++tb y++num (un:Int) 1)=S3 at *;generalize hS2:strOfNums (S++num (y.size:Int) 1++tb y)=S2 at *;generalize hS1:strOfNums (S++num (y.size:Int) 1)=S1 at *;generalize hB1:strOfNums (num (y.size:Int) 1)=B1 at *;generalize hB2:strOfNums (num (un:Int) 1)=B2 at *;generalize hB3:strOfNums U=B3 at *;have HS4:=zx hS4;clear hS4 hS3 hS2 hS1 hB1 hB2 hB3;go_wp2;refine wp_region_quiet_below (by kernel_rfl) (by kernel_rfl) ?_
       repeat(go_big_quiet_step (first|(go_at_call_of 165 (Value.int IntKind.i64 (y.size:Int));exact N1.out _ _)|(go_at_call_of 165 (Value.int IntKind.i64 (un:Int));exact N2.out _ _)))
       refine wpQuiet_nil ?_;intro _ hw';obtain⟨⟨dq,osq⟩,hw''⟩:=hw';subst hw'';have HB7:=zx (HB5.out.trans ((HB6.out.trans ((below_regrown wr dq osq).mono HB6.out.size)).mono HB5.out.size));clear d1 N1 N2 a1 a2 a3 a4;generalize Sort.grow (redrawn wr dq) osq=w7 at *;go_wp2
       go_roundw
       case rel=>exact⟨q+1,by omega,by go_num,by rw[HNX.out,HFS.out,HS4.out],HB7.out⟩
       case measure=>simp[intOf];omega
    ·have hqe:q=mn:=by omega
     subst hqe;rw[List.take_of_length_le (by rw[HMN.out];exact Nat.le_refl _),←HBY2.out];have hpk:Hid (pk l=wy l++num (rS (wy l)) 4):=rfl;have hbl2:=HBL.out;have hsv:=cy (wy l)
     have hsz:(strOfNums (wy l)).size≤1048576:=by rw[wS];omega
     have CS:=zx (lW (strOfNums (wy l)) wr hsz);rw[tb_of HBT.out]at CS
     have ha1:=fun w=>xP (wy l) (num (rS (wy l)) 4) w (by rw[yo];omega)
     rw[←hpk.out]at ha1;have HB5:=zx hb5;clear hb5 hsz;generalize rS (wy l)=sv at *;generalize strOfNums (wy l)=BS at *;go_wp2_with (first|(go_at_call 168;refine CS.out.mono ?_;rintro e w' ⟨rfl,hw⟩;rw[hw];clear hw w')|(go_at_call 165;refine(yE sv 4 _ (by omega) (by omega) (by omega)).mono ?_;rintro e w8 ⟨rfl,hb8⟩;have HB8:=zx hb8;clear hb8));go_ret;exact⟨rfl,HB40.out.trans ((HB5.out.trans (HB8.out.mono HB5.out.size)).mono HB40.out.size)⟩
theorem dw (v:Value) (l:List Ent) (w:World) (h:RdE w v l) (hS:dQ l) :
  Calls Tryz.prog 103 #[v] w fun e w'=>e=.returned (.string (strOfNums (pk l)))∧Below w.heap.size w w':=by
 obtain⟨a,c,rfl,_,_⟩:=uX h;exact iO a c l w h hS
theorem nB (v:Value) (l:List Ent) (w:World) (h:RdE w v l) (hS:dQ l) :
  Calls Tryz.prog 63 #[v] w fun e w'=>e=.returned (.tuple #[.string (strOfNums (pk l)), .int .i64 0])∧Below w.heap.size w w':=by
 have CI:=zx (pE v l w h);rw[segD_yes.2 hS]at CI;have HR:=zx h;have HS:=zx hS;clear h hS
 go_enter Tryz.func63,Tryz.ntmps63
 go_wp2_with fail;refine CI.out.mono ?_;rintro e w1 ⟨rfl,hb1⟩;have HB:=zx hb1;have CL:=zx (dw v l w1 (HR.out.below hb1) HS.out);clear hb1 CI;go_wp2_with fail;refine CL.out.mono ?_;rintro e w2 ⟨rfl,hb2⟩;have HB2:=zx (HB.out.trans (hb2.mono HB.out.size));clear hb2 CL;go_wp2;go_ret2;exact⟨rfl,HB2.out⟩
theorem rt {w0 w:World}{v:Value}{l:List Ent}{n:Nat}(h:CurE w0 w v l):CurE w0 (w.drewN n) v l:=⟨⟨h.1.os,h.1.tape,h.1.output,h.1.size,h.1.block⟩,h.2⟩
theorem wW {P:Program}(w:World){ops:Array Oper}{o:Oper}{a:Act}{K:Act→World→Prop}{Q:Exit→Act→World→Prop}{E:Prop}(hgd:o.guard=none) (s x:Operand) (t:TypeId)
  (ho:o.op=.call { callee:=.builtin .append,args:=#[s,x],argTypes:=#[t,t] })
  (base:Nat) (e:TypeId) (i:TypeInfo) (z:Value) (size bytes:Nat) (ht:P.underlying t=some (.slice e)) (hi:P.info? e=some i) (hz:i.zero=some z)
  (hsize:i.size=size) (hby:i.bytes=bytes) (hzs:z.cells.size=size) (hsz:0<size)
  (v:Value) (n:Nat) (xs:List Value) (hs:a.eval s=v) (hown:w.ownsRow base e size v n xs)
  (ad:Addr) (m c:Nat) (news:List Value) (hx:a.eval x=.slice (some ad) m c) (hl:news.length=m*size) (hnews:∀j u,news[j]? = some u→w.cell? (ad.add j)=some u) (h1:∀u∈news,u.oneCell'=true)
  (h63:n+m≤maxLen) (hbytes:(n+m)*bytes≤140737488355328) (hbase:base≤w.heap.size)
  (h:∀v' w',w'.ownsRow base e size v' (n+m) (xs++news)→w.grownBy w' v.ownBlock→K (a.put o.dst v') w') :
  if Region.wanted o (yielded ops a.tmps)=true then Oper.wp P o a w K Q else E:=by
 have hw:Region.wanted o (yielded ops a.tmps)=true:=by simp[Region.wanted,hgd]
 rw[if_pos hw]
 exact wp_append_own w s x t ho base e i z size bytes ht hi hz hsize hby hzs hsz v n xs hs hown ad m c news hx hl hnews h1 h63 hbytes hbase fun v' w' h2 h3 _=>h v' w' h2 h3
def mB (n i:Nat):Int:=if i % 2=0 then 1+(n:Int) % 251 else 1+(n:Int) / 251 % 251
def mT (n:Nat):ByteArray:=strOfNums [(n:Int) % 256,(n:Int) / 256 % 256,(n:Int) / 65536,33]
theorem pA (n i:Nat) (w:World) (hn:n≤4194304) (hi:i≤4194304):Calls Tryz.prog 137 #[.int .i64 n, .int .i64 i] w fun e w'=>e=.returned (.int .u8 (mB n i))∧w'=w:=by
 by_cases h:i % 2=0
 ·have h1:(i:Int) % 2=0:=by omega
  have hm:mB n i=1+(n:Int) % 251:=by unfold mB;rw[if_pos h]
  rw[hm]
  go_enter Tryz.func137,Tryz.ntmps137
  go_wp2;go_ret;exact⟨by first|rfl|(congr 2;omega),rfl⟩
 ·have h1:¬(i:Int) % 2=0:=by omega
  have h2:((i:Int) % 2 == 0)=false:=by simpa using h1
  have hm:mB n i=1+(n:Int) / 251 % 251:=by unfold mB;rw[if_neg h]
  rw[hm]
  go_enter Tryz.func137,Tryz.ntmps137
  go_wp2;go_ret;exact⟨by first|rfl|(congr 2;omega),rfl⟩
theorem gz (w:World) (a b c d:Int):(convert 158 9 (.slice (some ⟨w.heap.size,0,none⟩) 4 4)).run Tryz.prog (w.alloc (.cells #[.int .u8 a, .int .u8 b, .int .u8 c, .int .u8 d] 5))=.ok (.string (strOfNums [a,b,c,d])) (w.alloc (.cells #[.int .u8 a, .int .u8 b, .int .u8 c, .int .u8 d] 5)):=by
 refine run_convert_bytes_arg (P:=Tryz.prog) _ 158 5 Tryz.underlying158 Tryz.underlying5 w.heap.size 0 4 4 [a,b,c,d] rfl (fun i hi=>?_) 9 Tryz.underlying9
 match i,hi with
 | 0,_=>simp
 | 1,_=>simp
 | 2,_=>simp
 | 3,_=>simp
theorem pB (n:Nat) (w:World) (hn:n≤4194304):Calls Tryz.prog 138 #[.int .i64 n] w fun e w'=>e=.returned (.string (mT n))∧Below w.heap.size w w':=by
 have hcv:=gz w ((n:Int) % 256) ((n:Int) / 256 % 256) ((n:Int) / 65536) 33;have hm:Hid (mT n=strOfNums [(n:Int) % 256,(n:Int) / 256 % 256,(n:Int) / 65536,33]):=rfl;rw[←hm.out]at hcv
 go_enter Tryz.func138,Tryz.ntmps138
 go_wp2;go_ret;exact⟨rfl,zi w _⟩
theorem yO (n:Int) (w:World):Calls Tryz.prog 114 #[.int .i64 n] w fun e w'=>e=.returned (.int .i64 n)∧w'=w:=by
 go_enter Tryz.func114,Tryz.ntmps114
 go_wp2;go_ret;exact⟨rfl,rfl⟩
def RdM (w:World) (e:TypeId) (sz:Nat) (v:Value) (n:Nat) (f:Nat→Value):Prop:=
 ∃(a:Option Addr) (c:Nat),v=.slice a n c∧n≤c∧c≤maxLen∧(n=0∨∃g C,a=some ⟨g,0,none⟩∧w.heap[g]? = some (Obj.cells C e (0,0))∧∀j,j<n*sz→w.cell? ⟨g,j,none⟩=some (f j))
theorem RdM.keep {w w':World}{e:TypeId}{sz:Nat}{v:Value}{n:Nat}{f:Nat→Value}(h:RdM w e sz v n f) (hk:∀(g:Nat) C,w.heap[g]? = some (Obj.cells C e (0,0))→w'.heap[g]? = w.heap[g]?):RdM w' e sz v n f:=by
 obtain⟨a,c,rfl,h1,h2,h⟩:=h;refine⟨a,c,rfl,h1,h2,h.imp id ?_⟩;rintro ⟨g,C,rfl,hg,hc⟩;have:=hk g C hg;exact⟨g,C,rfl,this.trans hg,fun j hj=>by rw[World.cell?_of_block (w:=w) (a:=⟨g,j,none⟩) this];exact hc j hj⟩
theorem RdM.below {w w':World}{e:TypeId}{sz:Nat}{v:Value}{n:Nat}{f:Nat→Value}(h:RdM w e sz v n f) (hb:Below w.heap.size w w'):RdM w' e sz v n f:=
 h.keep fun g _ hg=>hb.block g (Mth.gI hg)
theorem xe {w:World}{e:TypeId}{sz:Nat}{v:Value}{n:Nat}{f:Nat→Value}(h:RdM w e sz v n f):∃a c,v=.slice a n c∧n≤c∧c≤maxLen:=by
 obtain⟨a,c,rfl,h1,h2,_⟩:=h;exact⟨a,c,rfl,h1,h2⟩
theorem tw {w:World}{e:TypeId}{sz:Nat}{a:Option Addr}{n c:Nat}{f:Nat→Value}(h:RdM w e sz (.slice a n c) n f) (hn:0<n):∃g,a=some ⟨g,0,none⟩∧g<w.heap.size∧∀j,j<n*sz→w.cell? ⟨g,j,none⟩=some (f j):=by
 obtain⟨a',c',e',_,_,h⟩:=h
 injection e' with e1 e2 e3
 rcases h with h|⟨g,C,e4,hg,hc⟩
 ·omega
 ·exact⟨g,e1.trans e4,(Mth.gI hg),hc⟩
theorem cU {w:World}{B:Nat}{e:TypeId}{sz:Nat}{v:Value}{n:Nat}{f:Nat→Value}(h:w.ownsRow B e sz v n ((List.range (n*sz)).map f)):RdM w e sz v n f:=by
 have hc:=fun g hg=>h.cells (g:=g) hg
 rcases h.2 with⟨rfl,rfl⟩|⟨g,cap,cur,rfl,_,hg,h1,h2,_⟩
 ·exact⟨none,0,rfl,Nat.le_refl _,by unfold maxLen;omega,Or.inl rfl⟩
 ·refine⟨_,cap,rfl,h1,h2,Or.inr ⟨g,cur,rfl,hg,fun j hj=>?_⟩⟩;have:=hc g rfl j (f j) (by simp[hj])
  rwa [show(⟨g,0,none⟩:Addr).add j=⟨g,j,none⟩ from by unfold Addr.add;split <;> simp_all]at this
def fB (n:Nat) (j:Nat):Value:=.int .u8 (mB n j)
def fT (n:Nat) (_:Nat):Value:=.string (mT n)
def fE (n:Nat) (j:Nat):Value:=if j % 3=0 then .int .i64 (-1000-(n:Int)) else if j % 3=1 then .int .i64 0 else .string ⟨#[]⟩
theorem xI {v:Value}{len n:Nat}{w:World}(h:RdM w 5 1 v len (fB n)) (hn:n≤4194304) (hl:len≤4194304) :
  Calls Tryz.prog 70 #[v, .int .i64 n] w fun e w'=>e=.returned (.bool true)∧Below w.heap.size w w':=by
 obtain⟨a,c,rfl,hc,hm⟩:=xe h;unfold maxLen at hm;have HR:=zx h;clear h
 go_enter Tryz.func70,Tryz.ntmps70
 go_wp2_with fail
 go_loopw [5] (fun i wr=>∃k:Nat,k≤len∧i=.int .i64 k∧Below w.heap.size w wr) (fun i _=>len-(intOf i).toNat)
 case atStart=>exact⟨0,Nat.zero_le _,rfl,Below.refl _ _⟩
 case round=>
  obtain⟨k,hk,rfl,hb⟩:=hrel;by_cases hlt:k<len
  ·obtain⟨g,rfl,_,hcl⟩:=tw (HR.out.below hb) (by omega);have d1:=cell_regrown (hcl k (by omega));unfold fB at d1;have CM:=zx (fun d os=>Calls.regrown_of (w:=wr) (d:=d) (os:=os) ((pA n k (Sort.grow (redrawn wr d) os) (by omega) (by omega)).mono fun e w' q=>⟨q.1,by rw[q.2];exact Below.refl _ _⟩));generalize mB n k=x at *;have HB:=zx hb;clear hb hcl;go_wp2;refine wp_region_quiet_below (by kernel_rfl) (by kernel_rfl) ?_
   repeat(go_big_quiet_step (first|(go_at_call 137;exact CM.out _ _)))
   refine wpQuiet_nil ?_;intro _ hw';obtain⟨⟨dq,osq⟩,hw''⟩:=hw';subst hw'';have HB2:=zx (HB.out.trans ((below_regrown wr dq osq).mono HB.out.size));clear d1 CM;generalize Sort.grow (redrawn wr dq) osq=w2 at *;go_wp2
   go_roundw
   case rel=>exact⟨k+1,by omega,by go_num,HB2.out⟩
   case measure=>simp[intOf];omega
  ·go_wp2;go_ret;exact⟨rfl,hb⟩
theorem xJ {v:Value}{len n:Nat}{w:World}(h:RdM w 9 1 v len (fT n)) (hn:n≤4194304) :
  Calls Tryz.prog 72 #[v, .int .i64 n] w fun e w'=>e=.returned (.bool true)∧Below w.heap.size w w':=by
 obtain⟨a,c,rfl,hc,hm⟩:=xe h;unfold maxLen at hm;have HR:=zx h;clear h
 go_enter Tryz.func72,Tryz.ntmps72
 go_wp2_with fail
 go_loopw [5] (fun i wr=>∃k:Nat,k≤len∧i=.int .i64 k∧Below w.heap.size w wr) (fun i _=>len-(intOf i).toNat)
 case atStart=>exact⟨0,Nat.zero_le _,rfl,Below.refl _ _⟩
 case round=>
  obtain⟨k,hk,rfl,hb⟩:=hrel;by_cases hlt:k<len
  ·obtain⟨g,rfl,_,hcl⟩:=tw (HR.out.below hb) (by omega);have d1:=cell_regrown (hcl k (by omega));unfold fT at d1;have CM:=zx (fun d os=>Calls.regrown_of (w:=wr) (d:=d) (os:=os) (pB n (Sort.grow (redrawn wr d) os) (by omega)));generalize mT n=x at *;have HB:=zx hb;clear hb hcl;go_wp2;refine wp_region_quiet_below (by kernel_rfl) (by kernel_rfl) ?_
   repeat(go_big_quiet_step (first|(go_at_call 138;exact CM.out _ _)))
   refine wpQuiet_nil ?_;intro _ hw';obtain⟨⟨dq,osq⟩,hw''⟩:=hw';subst hw'';have HB2:=zx (HB.out.trans ((below_regrown wr dq osq).mono HB.out.size));clear d1 CM;generalize Sort.grow (redrawn wr dq) osq=w2 at *;go_wp2
   go_roundw
   case rel=>exact⟨k+1,by omega,by go_num,HB2.out⟩
   case measure=>simp[intOf];omega
  ·go_wp2;go_ret;exact⟨rfl,hb⟩
theorem yD {v:Value}{len n:Nat}{w:World}(h:RdM w 66 3 v len (fE n)) (hn:n≤4194304) :
  Calls Tryz.prog 73 #[v, .int .i64 n] w fun e w'=>e=.returned (.bool true)∧Below w.heap.size w w':=by
 obtain⟨a,c,rfl,hc,hm⟩:=xe h;unfold maxLen at hm;have HR:=zx h;clear h
 go_enter Tryz.func73,Tryz.ntmps73
 go_wp2_with fail
 go_loop [5] (fun i=>∃k:Nat,k≤len∧i=.int .i64 k) (fun i=>len-(intOf i).toNat)
 case atStart=>exact⟨0,Nat.zero_le _,rfl⟩
 case round=>
  obtain⟨k,hk,rfl⟩:=hrel;by_cases hlt:k<len
  ·obtain⟨g,rfl,_,hcl⟩:=tw HR.out (by omega);have d0:=hcl (k*3) (by omega);have d1:=hcl (k*3+1) (by omega);have d2:=hcl (k*3+2) (by omega);unfold fE at d0 d1 d2;rw[if_pos (by omega)]at d0;rw[if_neg (by omega),if_pos (by omega)]at d1;rw[if_neg (by omega),if_neg (by omega)]at d2;clear hcl;go_wp2
   go_round
   case rel=>exact⟨k+1,by omega,by go_num⟩
   case measure=>simp[intOf];omega
  ·go_wp2;go_ret;exact⟨rfl,Below.refl _ _⟩
end Go.Proofs.YtkncboinfcnklaaGreatDoor
namespace Go.Proofs.YtkncboinfcnklaaGreatDoor
open Go.RowKit Go.Deep Go.Proofs.YtkncboinfcnklaaGreatDoor.Mth
section
variable {P:Program}(w:World)
theorem tB (base:Nat) (t ty e:TypeId) (i:TypeInfo) (z:Value) (size bytes:Nat) (ht:P.underlying t=some (.slice e)) (hi:P.info? e=some i) (hz:i.zero=some z)
  (hsize:i.size=size) (hby:i.bytes=bytes) (hzs:z.cells.size=size) (hsz:0<size)
  (v:Value) (n:Nat) (xs:List Value) (hown:w.ownsRow base e size v n xs)
  (a:Addr) (m c:Nat) (news:List Value) (hl:news.length=m*size) (hnews:∀j u,news[j]? = some u→w.cell? (a.add j)=some u) (h1:∀u∈news,u.oneCell'=true)
  (h63:n+m≤maxLen) (hbytes:(n+m)*bytes≤140737488355328) (hbase:base≤w.heap.size) (_hm0:0<m) :
  ∃v' w',(Builtin.append_ #[t,t] ty #[v, .slice (some a) m c]).run P w=.ok v' w'∧w'.ownsRow base e size v' (n+m) (xs++news)∧w.grownBy w' v.ownBlock ∧
   w'.ownsRow base e size v n xs∧(v'.ownBlock=v.ownBlock∨w.grownBy w' none):=by
 obtain⟨v',w',hr,h2,h3,h4,h5⟩:=run_append_own_at (P:=P) w base t ty e i z size bytes ht hi hz hsize hby hzs hsz v n xs hown a m c news hl hnews h1 h63 hbytes hbase;refine⟨v',w',hr,h2,h3,?_⟩;subst hsize
 subst hby
 have hsmall:n+m≤9223372036854775807:=by simp only[maxLen]at h63;omega
 rcases hown.2 with⟨rfl,rfl⟩|⟨g,cap,cur,rfl,hbg,hg,hnc,hcm,hcs,htake⟩
 ·have hx:xs=[]:=List.eq_nil_of_length_eq_zero (by simpa using hown.1);subst hx;exact⟨World.ownsRow_nil _ _ _ _,Or.inr h3⟩
 ·by_cases hroom:n+m≤cap
  ·have hfit:n*i.size+news.length≤cur.size:=by rw[hl,hcs,←Nat.add_mul];exact Nat.mul_le_mul_right _ hroom
   have hr':=run_append_room (P:=P) w t ty e i ht hi g n cap cur hg a m c news hl hnews h1 hroom hfit;rw[hr]at hr'
   injection hr' with e1 e2
   subst e1 e2;refine⟨⟨hown.1, .inr ⟨g,cap,_,rfl,hbg,setRow_heap w g cur _ e _ hg,hnc,hcm,?_,?_⟩⟩,Or.inl rfl⟩
   ·simp only[List.size_toArray,List.length_append,List.length_take,List.length_drop,Array.length_toList];omega
   ·rw[htake,List.append_assoc,List.take_append_of_le_length (by rw[hown.1];exact Nat.le_refl _),List.take_of_length_le (by rw[hown.1];exact Nat.le_refl _)]
  ·have holds:∀j u,xs[j]? = some u→w.cell? ((⟨g,0,none⟩:Addr).add j)=some u:=hown.cells (g:=g) rfl;have hr':=run_append_grow (P:=P) w t ty e i z ht hi hz ⟨g,0,none⟩ n cap xs hown.1 holds a m c news hl hnews (by omega) (by omega) (growslice_fits (by omega) hbytes);rw[hr]at hr'
   injection hr' with e1 e2
   subst e1 e2;have hg2:w.grownBy (w.drew.alloc (.cells (xs.toArray++news.toArray++Builtin.zeroCells z.cells (grownCap w (n+m) cap e-(n+m))) e)) none:=⟨rfl,rfl,rfl,by simp,fun k hk _=>Mth.uC w.drew _ hk⟩;exact⟨hown.kept hg2 (Or.inr (by simp[Value.ownBlock])),Or.inr hg2⟩
end
def rU (f:Nat→Value) (n:Nat):List Value:=(List.range n).map f
theorem jk (f:Nat→Value) (n:Nat):(rU f n).length=n:=by simp[rU]
theorem cI (f:Nat→Value) (n m:Nat):rU f (n+m)=rU f n++(List.range m).map (fun j=>f (n+j)):=by
 unfold rU;rw[List.range_add,List.map_append,List.map_map];rfl
theorem cT {w w2:World}{B:Nat}{e:TypeId}{sz:Nat}{u v v2:Value}{k N:Nat}{f:Nat→Value}(h:RdM w e sz u k f) (hk:k≤N) (ho:w2.ownsRow B e sz v2 N (rU f (N*sz))) (hg:w.grownBy w2 v.ownBlock) (hor:v2.ownBlock=v.ownBlock∨w.grownBy w2 none):RdM w2 e sz u k f:=by
 obtain⟨a,c,rfl,h1,h2,h⟩:=h;refine⟨a,c,rfl,h1,h2,h.imp id ?_⟩;rintro ⟨g,C,rfl,hgb,hc⟩;have hlt:g<w.heap.size:=(Mth.gI hgb);by_cases hs:w2.heap[g]? = w.heap[g]?
 ·exact⟨g,C,rfl,hs.trans hgb,fun j hj=>by rw[World.cell?_of_block (w:=w) (a:=⟨g,j,none⟩) hs];exact hc j hj⟩
 ·have hv:some g=v.ownBlock:=by
   apply Classical.byContradiction;intro q;exact hs (hg.block g hlt q)
  have hv2:v2.ownBlock=some g:=by
   rcases hor with q|q
   ·rw[q,hv]
   ·exact absurd (q.block g hlt (by simp)) hs
  have hcells:=fun g' hg'=>ho.cells (g:=g') hg'
  rcases ho.2 with⟨rfl,_⟩|⟨g2,cap2,cur2,rfl,_,hg2,_⟩
  ·simp[Value.ownBlock]at hv2
  ·simp[Value.ownBlock]at hv2;subst hv2;refine⟨g2,cur2,rfl,hg2,fun j hj=>?_⟩;have hjN:j<N*sz:=Nat.lt_of_lt_of_le hj (Nat.mul_le_mul_right _ hk);have:=hcells g2 rfl j (f j) (by simp[rU,hjN])
   rwa [show(⟨g2,0,none⟩:Addr).add j=⟨g2,j,none⟩ from by unfold Addr.add;split <;> simp_all]at this
theorem jl {w:World}{B:Nat}{e:TypeId}{sz:Nat}{v:Value}{n:Nat}{f:Nat→Value}(h:w.ownsRow B e sz v n (rU f (n*sz))):RdM w e sz v n f:=cU h
theorem pm {w:World}{e e':TypeId}{sz:Nat}{u:Value}{k:Nat}{f:Nat→Value}{xb o:Nat}{C:Array Value}{fr:Nat × Nat}{y:Value}(h:RdM w e sz u k f) (hx:w.heap[xb]? = some (Obj.cells C e' fr)) (hne:e'≠e):RdM (w.setCell ⟨xb,o,none⟩ y) e sz u k f:=by
 refine h.keep fun g D hg=>?_
 refine zt (fun q=>?_);subst q;rw[hx]at hg
 injection hg with hg
 injection hg with _ hg _
 exact hne hg
theorem zl {w:World}{B:Nat}{e e':TypeId}{sz:Nat}{v:Value}{n:Nat}{xs:List Value}{xb o:Nat}{C:Array Value}{fr:Nat × Nat}{y:Value}(h:w.ownsRow B e sz v n xs) (hx:w.heap[xb]? = some (Obj.cells C e' fr)) (hne:e'≠e):(w.setCell ⟨xb,o,none⟩ y).ownsRow B e sz v n xs:=by
 refine⟨h.1,h.2.imp id ?_⟩;rintro ⟨g,cap,cur,hv,h1,hg,h2⟩;refine⟨g,cap,cur,hv,h1,?_,h2⟩;rw[zt (fun q=>?_)]
 ·exact hg
 ·subst q;rw[hx]at hg
  injection hg with hg
  injection hg with _ hg _
  exact hne hg
theorem zF {w:World}{B:Nat}{e:TypeId}{sz:Nat}{g n cap:Nat}{xs:List Value}{i:Nat}{y:Value}(h:w.ownsRow B e sz (.slice (some ⟨g,0,none⟩) n cap) n xs) (_hi:i<n*sz):(w.setCell ⟨g,i,none⟩ y).ownsRow B e sz (.slice (some ⟨g,0,none⟩) n cap) n (xs.set i y):=by
 rcases h.2 with⟨q,_⟩|⟨g',cap',cur,hv,h1,hg,h2,h3,h4,h5⟩
 ·cases q
 ·cases hv;refine⟨by rw[List.length_set];exact h.1, .inr ⟨g,cap,cur.setIfInBounds i y,rfl,h1,?_,h2,h3,by rw[Array.size_setIfInBounds];exact h4,?_⟩⟩
  ·simp[World.setCell,Array.getElem?_modify,hg]
  ·rw[Array.toList_setIfInBounds,List.take_set,h5]
theorem wg {w:World}{B:Nat}{e:TypeId}{sz:Nat}{g n cap:Nat}{xs:List Value}{i:Nat}(h:w.ownsRow B e sz (.slice (some ⟨g,0,none⟩) n cap) n xs) (hi:i<n*sz):(∃y,w.cell? ⟨g,i,none⟩=some y)∧w.frozen? ⟨g,i,none⟩=false:=by
 have hc:=h.cells (g:=g) rfl i (xs[i]'(by rw[h.1];exact hi)) (by simp);rw[show(⟨g,0,none⟩:Addr).add i=⟨g,i,none⟩ from by unfold Addr.add;split <;> simp_all]at hc;refine⟨⟨_,hc⟩,?_⟩
 rcases h.2 with⟨q,_⟩|⟨g',cap',cur,hv,h1,hg,_⟩
 ·cases q
 ·cases hv;simp[World.frozen?,hg]
theorem gJ {w:World}{B:Nat}{e:TypeId}{sz:Nat}{g n cap:Nat}{xs:List Value}(h:w.ownsRow B e sz (.slice (some ⟨g,0,none⟩) n cap) n xs):B≤g∧g<w.heap.size∧n≤cap∧cap≤maxLen∧∃C,w.heap[g]? = some (Obj.cells C e (0,0)):=by
 rcases h.2 with⟨q,_⟩|⟨g',cap',cur,hv,h1,hg,h2,h3,_⟩
 ·cases q
 ·cases hv;exact⟨h1,(Mth.gI hg),h2,h3,cur,hg⟩
end Go.Proofs.YtkncboinfcnklaaGreatDoor
