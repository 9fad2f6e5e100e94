import Derived.Test.YtkncboinfcnklaaGreatDoorQ1
import Derived.Lib.QuietBelow
import Derived.Lib.AppendStr
import Derived.Maps.AppendAt
import Derived.Lib.ConvBytes
import Derived.Lib.LaidTab
import Derived.WalkSmall
import Derived.Shelf.Bytes.SlSmallAll
set_option maxRecDepth 100000
set_option maxHeartbeats 8000000
namespace Go.Proofs.YtkncboinfcnklaaGreatDoor
open Go.RowKit Go.Deep Go.Proofs.YtkncboinfcnklaaGreatDoor.Mth
def RdE (w:World) (v:Value) (l:List Ent):Prop:=
 ∃(a:Option Addr) (c:Nat),v=.slice a l.length c∧l.length≤c∧c≤maxLen∧(l=[]∨∃b o,a=some ⟨b,o,none⟩∧∀j,j<l.length→w.cell? ⟨b,o+j*3,none⟩=some (.int .i64 (l.getD j e0).seq)∧w.cell? ⟨b,o+j*3+1,none⟩=some (.int .i64 (l.getD j e0).time)∧w.cell? ⟨b,o+j*3+2,none⟩=some (.string (l.getD j e0).text))
theorem RdE.below {w w':World}{v:Value}{l:List Ent}(h:RdE w v l) (hb:Below w.heap.size w w'):RdE w' v l:=by
 obtain⟨a,c,rfl,hc,hm,h⟩:=h;refine⟨a,c,rfl,hc,hm,?_⟩
 rcases h with h|⟨b,o,rfl,h⟩
 ·exact Or.inl h
 ·refine Or.inr ⟨b,o,rfl,fun j hj=>?_⟩;obtain⟨h1,h2,h3⟩:=h j hj;have hlt:b<w.heap.size:=World.block_lt_of_cell? _ _ h1;exact⟨(hb.cell (p:=⟨b,_,none⟩) hlt).trans h1,(hb.cell (p:=⟨b,_,none⟩) hlt).trans h2,(hb.cell (p:=⟨b,_,none⟩) hlt).trans h3⟩
theorem uX {w:World}{v:Value}{l:List Ent}(h:RdE w v l):∃a c,v=.slice a l.length c∧l.length≤c∧c≤maxLen:=by
 obtain⟨a,c,rfl,hc,hm,_⟩:=h;exact⟨a,c,rfl,hc,hm⟩
theorem uw {w:World}{a:Option Addr}{n c:Nat}{l:List Ent}(h:RdE w (.slice a n c) l) (j:Nat) (hj:j<l.length):∃b o,a=some ⟨b,o,none⟩∧b<w.heap.size∧w.cell? ⟨b,o+j*3,none⟩=some (.int .i64 (l.getD j e0).seq)∧w.cell? ⟨b,o+j*3+1,none⟩=some (.int .i64 (l.getD j e0).time)∧w.cell? ⟨b,o+j*3+2,none⟩=some (.string (l.getD j e0).text):=by
 obtain⟨a',c',e,hc,hm,h⟩:=h
 injection e with e1 e2 e3
 rcases h with h|⟨b,o,e4,h⟩
 ·subst h;simp at hj
 ·exact⟨b,o,e1.trans e4,World.block_lt_of_cell? _ _ (h j hj).1,h j hj⟩
theorem tX {n k:Nat}{f:Nat→Bool}(hk:k<n) (h:f k=false):(List.range n).all f=false:=by
 rw[List.all_eq_false];exact⟨k,List.mem_range.2 hk,by simp[h]⟩
theorem yV {w w':World}(h:Below w.drew.heap.size w.drew w'):Below w.heap.size w w':=⟨h.os,h.tape,h.output,h.size,h.block⟩
theorem sd {l:List Int}(h:mH l) (k:Nat):0≤l.getD k 0∧l.getD k 0<256:=by
 by_cases c:k<l.length
 ·have:=h l[k] (List.getElem_mem c)
  simpa [List.getD,c] using this
 ·simp[List.getD,List.getElem?_eq_none (by omega:l.length≤k)]
theorem cd {l:List Int}{k:Nat}(h:k<l.length):sm (l.take (k+1))=xy (sm (l.take k)) (l.getD k 0):=by
 rw[List.take_succ_eq_append_getElem h,kD];simp[List.getD,h]
def sV (c:Int):Int:=if 65≤c∧c≤90 then c+32 else if (97≤c∧c≤122)∨(48≤c∧c≤57) then c else 32
theorem aV (c:Int):0≤sV c∧sV c<128:=by unfold sV;split <;> (try split) <;> omega
theorem iu (c:Int) (w:World) (h0:0≤c) (h1:c<256):Calls Tryz.prog 160 #[.int .u8 c] w fun e w'=>e=.returned (.int .u8 (sV c))∧w'=w:=by
 go_enter Tryz.func160,Tryz.ntmps160
 go_wp2
 all_goals go_ret
 all_goals refine⟨?_,rfl⟩
 all_goals (congr 2;unfold sV)
 all_goals first|(rw[if_pos (by omega)];first|rfl|omega|(simp;omega))|(rw[if_neg (by omega),if_pos (by omega)];first|rfl|omega)|(rw[if_neg (by omega),if_neg (by omega)];first|rfl|omega)
def Tab (w : World) : Prop := Lib.TabIs Tryz.prog w "strings.asciiSpace" .u8 Lib.asciiSpaceTab
theorem Tryz.gSpaceSome : (Tryz.prog.globalNamed "strings.asciiSpace").isSome = true := by kernel_rfl
theorem Tryz.gSpace : ∃ g, Tryz.prog.globalNamed "strings.asciiSpace" = some g := Option.isSome_iff_exists.1 Tryz.gSpaceSome
theorem Tab.below {w w':World}{B:Nat}(h:Tab w) (hb:Below B w w') (hB:w.heap.size≤B):Tab w':=by
 obtain⟨g,hg⟩:=Tryz.gSpace
 have hlt:g<w.heap.size:=by
  unfold Tab Lib.TabIs World.var? at h;simp only[hg,Option.bind_some]at h
  rcases Nat.lt_or_ge g w.heap.size with c|c
  ·exact c
  ·rw[Array.getElem?_eq_none c]at h;simp at h
 exact var?_below hb hg (by omega) h
def sy (s:ByteArray):ByteArray:=strOfNums ((tb s).map sV)
def wd (s:ByteArray):List ByteArray:=yi ((Lib.fields (sy s).data.toList).map wN)
theorem qD (s:ByteArray) (j:Nat) (hj:j<s.size):(tb s).getD j 0=((s.data.toList.getD j 0).toNat:Int):=by
 have hj':j<s.data.toList.length:=by simpa using hj
 unfold tb;simp[List.getD,List.getElem?_map,List.getElem?_eq_getElem hj']
theorem tV (w:World) (s:ByteArray):Below w.heap.size w (Lib.bytesWorld w 5 s):=
 ⟨rfl,rfl,rfl,by rw[Lib.bytesWorld_size];omega,fun k hk=>Lib.bytesWorld_at_old w 5 s k hk⟩
theorem uE (w:World) (s:ByteArray) (j:Nat) (hj:j<s.size):(Lib.bytesWorld w 5 s).frozen? ⟨w.heap.size,j,none⟩=false:=by
 have h:=Lib.bytesWorld_at_new w 5 s
 have hsz:s.size≤(Lib.bytesCells w 5 s).size:=by unfold Lib.bytesCells;simp
 simp only[World.frozen?,h];simp;omega
theorem iX (s:ByteArray) (j:Nat) (b:UInt8) (h:(sy s).data.toList[j]? = some b):b.toNat<128:=by
 unfold sy strOfNums at h;simp[List.getElem?_map]at h;obtain⟨x,_,rfl⟩:=h;have:=aV x
 have e:(UInt8.ofNat (sV x).toNat).toNat=(sV x).toNat % 256:=by simp
 omega
theorem uS (s:ByteArray):(sy s).size=s.size:=by
 have:(sy s).size=(sy s).data.toList.length:=by simp
 rw[this];unfold sy strOfNums;simp[tb]
theorem yP:∀(l cur:List UInt8),(Lib.fieldsGo cur l).flatten.length≤cur.length+l.length∧(Lib.fieldsGo cur l).length≤1+l.length
 | [],cur=>by
  unfold Lib.fieldsGo
  split <;> simp_all
 | b::l,cur=>by
  unfold Lib.fieldsGo;split
  ·split
   ·have:=yP l [];simp at this ⊢;omega
   ·have:=yP l [];simp at this ⊢;omega
  ·have:=yP l (cur++[b]);simp at this ⊢;omega
theorem ru (s:List UInt8):(Lib.fields s).length≤1+s.length:=(yP s []).2
theorem da {l:List (List UInt8)}{x:List UInt8}(h:x∈l):x.length≤l.flatten.length:=by
 induction l with
 | nil=>cases h
 | cons y l ih=>
  rw[List.flatten_cons,List.length_append]
  rcases List.mem_cons.1 h with e|e
  ·subst e;omega
  ·have:=ih e;omega
theorem qG (s:ByteArray):(wd s).length≤1+s.size:=by
 have h1:=tN ((Lib.fields (sy s).data.toList).map wN);have h2:=ru (sy s).data.toList;have h3:=uS s
 have h4:(sy s).data.toList.length=(sy s).size:=by simp
 unfold wd;rw[List.length_map]at h1;omega
theorem kI (s:ByteArray){x:ByteArray}(h:x∈wd s):x.size≤s.size:=by
 have h1:=((yc _).2 x).1 h;obtain⟨y,hy,rfl⟩:=List.mem_map.1 h1;have h2:=(yP (sy s).data.toList []).1;have h3:=da hy
 have h4:(sy s).data.toList.length=s.size:=by rw[←uS s];simp
 have h5:(wN y).size=y.length:=by simp[wN];rfl
 rw[List.length_nil,Nat.zero_add,h4]at h2;unfold Lib.fields at h3;omega
theorem il (w:World) (F:List (List UInt8)) (hF:F.length≤4194304):Rd (w.alloc (.cells (F.map fun l=>Value.string ⟨l.toArray⟩).toArray 9)) (.slice (some ⟨w.heap.size,0,none⟩) F.length F.length) (F.map wN):=by
 refine⟨_,F.length,by rw[List.length_map],by rw[List.length_map];exact Nat.le_refl _,by unfold maxLen;omega,(fun h=>by cases h),Or.inr ⟨w.heap.size,0,rfl,fun j hj=>?_⟩⟩;rw[List.length_map]at hj
 have h1:(w.alloc (.cells (F.map fun l=>Value.string ⟨l.toArray⟩).toArray 9)).heap[w.heap.size]? = some (.cells (F.map fun l=>Value.string ⟨l.toArray⟩).toArray 9 (0,0)):=by
  show(w.heap.push _)[w.heap.size]? = _;rw[Array.getElem?_push,if_pos rfl]
 simp only[World.cell?,h1];simp[List.getD,hj,wN]
theorem iB (s:ByteArray) (w:World) (hs:s.size≤1048576) (ha:∀(j:Nat) b,s.data.toList[j]? = some b→b.toNat<128) (ht:Tab w) :
  Calls Tryz.prog 162 #[.string s] w fun e w'=>e=.returned (.slice (some ⟨w.heap.size,0,none⟩) (Lib.fields s.data.toList).length (Lib.fields s.data.toList).length)∧w'=w.alloc (.cells ((Lib.fields s.data.toList).map fun l=>Value.string ⟨l.toArray⟩).toArray 9):=
 Any.strings_Fields Tryz.laysFields Tryz.info9 (by kernel_rfl) s w (by omega) ha ht
def T9 (w:World) (v:Value):Prop:=∀g o n c,v=.slice (some ⟨g,o,none⟩) n c→∃C,w.heap[g]? = some (Obj.cells C 9 (0,0))
theorem aX {w:World}{B n:Nat}{v:Value}{xs:List Value}(h:w.ownsRow B 9 1 v n xs):T9 w v:=by
 intro g o n' c e
 rcases h.2 with⟨h0,_⟩|⟨g',cap,cur,hv,_,hg,_⟩
 ·rw[h0]at e;cases e
 ·rw[hv]at e
  injection e with e _ _
  injection e with e
  injection e with e _ _
  subst e;exact⟨cur,hg⟩
def RdT (w:World) (v:Value) (l:List ByteArray):Prop:=Rd w v l∧T9 w v
theorem zW {w:World}{B B' n:Nat}{e:TypeId}{sz:Nat}{v:Value}{xs:List Value}(h:w.ownsRow B e sz v n xs) (hb:B'≤B):w.ownsRow B' e sz v n xs:=by
 refine⟨h.1,h.2.imp id ?_⟩;rintro ⟨g,cap,cur,hv,h1,h2⟩;exact⟨g,cap,cur,hv,Nat.le_trans hb h1,h2⟩
theorem qt (s:ByteArray) (w:World) (ht:Tab w) (hs:s.size≤1048576) :
  Calls Tryz.prog 100 #[.string s] w fun e w'=>∃v',e=.returned v'∧su w w' v' (wd s):=by
 have HT:=zx ht;clear ht;have hcv:=Lib.run_convert_string_bytes (P:=Tryz.prog) w 9 158 5 s (u:=.string) Tryz.underlying9 Tryz.underlying158 Tryz.underlying5;have hB0:=tV w s
 have hcell:∀j,j<s.size→(Lib.bytesWorld w 5 s).cell? ⟨w.heap.size,j,none⟩=some (.int .u8 ((tb s).getD j 0)):=fun j hj=>by rw[Lib.bytesWorld_cell w 5 s j hj,qD s j hj]
 have hfr:=uE w s
 have hsz:w.heap.size<(Lib.bytesWorld w 5 s).heap.size:=by rw[Lib.bytesWorld_size];omega
 have HI:Hid (Below w.heap.size w (Lib.bytesWorld w 5 s)∧(∀j,j<s.size→(Lib.bytesWorld w 5 s).cell? ⟨w.heap.size,j,none⟩=some (.int .u8 (if j<0 then sV ((tb s).getD j 0) else(tb s).getD j 0)))∧(∀j,j<s.size→(Lib.bytesWorld w 5 s).frozen? ⟨w.heap.size,j,none⟩=false)):=⟨hB0,fun j hj=>by rw[if_neg (by omega)];exact hcell j hj,hfr⟩;have hge:=grownCap_ge w s.size 0 5;generalize grownCap w s.size 0 5=gc at *;generalize hW:Lib.bytesWorld w 5 s=W at *;generalize hnb0:w.heap.size=nb at *;have HNB:=zx hnb0;clear hB0 hcell hfr hsz hnb0
 go_enter Tryz.func100,Tryz.ntmps100
 go_wp2_with fail;clear hcv hW
 go_loopw [10] (fun i wr=>∃k:Nat,k≤s.size∧i=.int .i64 k∧Below nb w wr∧(∀j,j<s.size→wr.cell? ⟨nb,j,none⟩=some (.int .u8 (if j<k then sV ((tb s).getD j 0) else(tb s).getD j 0)))∧(∀j,j<s.size→wr.frozen? ⟨nb,j,none⟩=false)) (fun i _=>s.size-(intOf i).toNat)
 case atStart=>exact⟨0,Nat.zero_le _,rfl,HI.out⟩
 case round=>
  obtain⟨k,hk,rfl,hb,hcs,hfs⟩:=hrel;by_cases hlt:k<s.size
  ·have hck:=hcs k hlt;rw[if_neg (by omega)]at hck;have hfk:=hfs k hlt;have hx:=sd (uA s) k;have HCS:=zx hcs;have HFS:=zx hfs;have HB:=zx hb;generalize hxx:(tb s).getD k 0=x at *;have HX:=zx hxx;obtain⟨x1,x2⟩:=hx;clear hcs hfs hb HI hxx;go_wp2_with (go_at_call 160;refine(iu x _ x1 x2).mono ?_;rintro e w' ⟨rfl,hw⟩;rw[hw];clear hw w')
   go_roundw
   case rel=>
    refine⟨k+1,by omega,by go_num,HB.out.setCell (Nat.le_refl _) _,fun j hj=>?_,fun j hj=>by rw[World.frozen?_setCell];exact HFS.out j hj⟩;by_cases c:j=k
    ·subst c;rw[if_pos (by omega),World.cell?_setCell_same' _ _ _ (by rw[hck];rfl),HX.out]
    ·rw[show(wr.setCell ⟨nb,k,none⟩ (Value.int IntKind.u8 (sV x))).cell? ⟨nb,j,none⟩=wr.cell? ⟨nb,j,none⟩ from World.cell?_setCell_other _ _ _ _ (by intro e;injection e with _ e _;omega),HCS.out j hj];by_cases d:j<k
     ·rw[if_pos d,if_pos (by omega)]
     ·rw[if_neg d,if_neg (by omega)]
   case measure=>simp[intOf];omega
  ·have hke:k=s.size:=by omega
   subst hke
   have hcv2:=run_convert_bytes_arg (P:=Tryz.prog) wr 158 5 Tryz.underlying158 Tryz.underlying5 nb 0 s.size gc ((tb s).map sV) (by simp[xS]) (fun j hj=>by
    rw[Nat.zero_add,hcs j hj,if_pos hj]
    have hj':j<(tb s).length:=by rw[xS];exact hj
    simp[List.getD,List.getElem?_map,List.getElem?_eq_getElem hj']) 9 Tryz.underlying9
   have hlow:strOfNums ((tb s).map sV)=sy s:=rfl;rw[hlow]at hcv2;have CF:=zx (iB (sy s) wr (by rw[uS];exact hs) (iX s) (HT.out.below hb (Nat.le_of_eq HNB.out)))
   have hfl:(Lib.fields (sy s).data.toList).length≤1048577:=by
    have h2:=ru (sy s).data.toList
    have h4:(sy s).data.toList.length=s.size:=by rw[←uS s];simp
    omega
   have RF:=zx (il wr (Lib.fields (sy s).data.toList) (by omega));have hbw:=zx (hb.trans ((zi wr (.cells ((Lib.fields (sy s).data.toList).map fun l=>Value.string ⟨l.toArray⟩).toArray 9)).mono (by have:=hb.size;have:=HNB.out;omega)));have hwd:Hid (wd s=yi ((Lib.fields (sy s).data.toList).map wN)):=rfl;generalize Lib.fields (sy s).data.toList=FL at *;generalize sy s=ls at *;clear hcs hfs HI hlow hlt;go_wp2_with fail;refine CF.out.mono ?_;rintro e w2 ⟨rfl,hw2⟩;rw[←hw2]at RF hbw;clear hw2 hcv2 CF;have MG:=zx (ia (cS RF.out) (by simpa using (by omega:FL.length≤4194304)));go_wp2_with fail;refine MG.out.mono ?_;rintro e w3 ⟨v3,rfl,hc3⟩;have HC3:=zx hc3;clear hc3 MG;go_wp2;go_ret;have hz0:=HNB.out;have hz1:=hbw.out.size;have hz2:=(zi w2 (Obj.cells #[.slice (some ⟨wr.heap.size,0,none⟩) FL.length FL.length] 58)).size;exact⟨_,rfl,hz0 ▸ hbw.out.trans (((zi w2 _).trans (HC3.out.1.mono (zi w2 _).size)).mono (by omega)),by rw[hwd.out];simpa using zW HC3.out.2 (by omega)⟩
theorem jJ (s:ByteArray) (w:World) (ht:Tab w) (hs:s.size≤60) :
  Calls Tryz.prog 100 #[.string s] w fun e w'=>∃v',e=.returned v'∧Below w.heap.size w w'∧RdT w' v' (wd s):=by
 refine(qt s w ht (by omega)).mono ?_;rintro e w' ⟨v',rfl,hc⟩;exact⟨v',rfl,hc.1,qC hc.2,aX hc.2⟩
def hv (Ls:List (List ByteArray)) (x:ByteArray) (i:Nat):Bool:=decide ((Ls.getD i []).head? = some x)
def tP (Ls:List (List ByteArray)) (x:ByteArray) (k:Nat):List Int:=((List.range k).filter (hv Ls x)).map (fun i:Nat=>(i:Int))
def tS (Ls:List (List ByteArray)) (x:ByteArray) (k:Nat):List (List ByteArray):=(List.range Ls.length).map (fun i=>if i<k∧hv Ls x i=true then(Ls.getD i []).tail else Ls.getD i [])
theorem vO (Ls:List (List ByteArray)) (x:ByteArray) (k:Nat):(tS Ls x k).length=Ls.length:=by simp[tS]
theorem io {Ls:List (List ByteArray)}{x:ByteArray}{k i:Nat}(h:i<Ls.length):(tS Ls x k).getD i []=if i<k∧hv Ls x i=true then(Ls.getD i []).tail else Ls.getD i []:=by
 simp[tS,List.getD,h]
theorem iI (Ls:List (List ByteArray)) (x:ByteArray) (k:Nat):(tP Ls x k).length≤k:=by
 unfold tP;rw[List.length_map];exact Nat.le_trans (List.length_filter_le _ _) (by simp)
theorem iH (Ls:List (List ByteArray)) (x:ByteArray) (k:Nat) (hk:k≤256):mH (tP Ls x k):=by
 intro y hy;unfold tP at hy;obtain⟨i,hi,rfl⟩:=List.mem_map.1 hy;have:=List.mem_range.1 (List.mem_filter.1 hi).1;omega
def ws (l:List Ent):List (List ByteArray):=l.map (fun e=>wd e.text)
def mw (l:List Ent):List ByteArray:=yi (ws l).flatten
def tQ:List ByteArray→List (List ByteArray)→List Int
 | [],_=>[]
 | x::xs,Ls=>((((x.size:Int) % 256)::tb x)++((((tP Ls x Ls.length).length:Int) % 256)::tP Ls x Ls.length))++tQ xs (tS Ls x Ls.length)
def idx (l:List Ent):List Int:=num (mw l).length 2++tQ (mw l) (ws l)
theorem jY:∀(l:List Ent),(∀e∈l,e.text.size≤60)→(ws l).flatten.length≤61*l.length
 | [],_=>by simp[ws]
 | e::l,h=>by
  have h1:=jY l (fun x hx=>h x (by simp[hx]));have h2:=qG e.text;have h3:=h e (by simp);simp only[ws,List.map_cons,List.flatten_cons,List.length_append,List.length_cons]at h1 ⊢;omega
theorem aN (l:List Ent) (h:∀e∈l,e.text.size≤60):(mw l).length≤61*l.length:=Nat.le_trans (tN _) (jY l h)
theorem jm (l:List Ent) (h:∀e∈l,e.text.size≤60){x:ByteArray}(hx:x∈mw l):x.size≤60:=by
 have h1:=((yc _).2 x).1 hx;obtain⟨L,hL,h2⟩:=List.mem_flatten.1 h1;obtain⟨e,he,rfl⟩:=List.mem_map.1 hL;exact Nat.le_trans (kI e.text h2) (h e he)
theorem qW:∀(xs:List ByteArray) (Ls:List (List ByteArray)),Ls.length≤64→mH (tQ xs Ls)
 | [],_,_=>pS
 | x::xs,Ls,h=>by
  refine yq (yq ?_ ?_) (qW xs _ (by rw[vO];exact h))
  ·exact yq (a:=[_]) (pT (by omega) (by omega)) (uA x)
  ·exact yq (a:=[_]) (pT (by omega) (by omega)) (iH _ _ _ (by omega))
theorem cB (l:List Ent) (h:l.length≤64):mH (idx l):=yq (uV _ _) (qW _ _ (by simpa [ws] using h))
def jP (l:List Ent):Bool:=decide (1≤l.length)&&(List.range l.length).all (vq l)
theorem aT {l:List Ent}(h:jP l=true) (h64:l.length≤64):dQ l:=by
 unfold jP at h;rw[Bool.and_eq_true,List.all_eq_true]at h;exact⟨by simpa using h.1,h64,fun i hi=>h.2 i (List.mem_range.2 hi)⟩
theorem cY {l:List Ent}(h:dQ l):jP l=true:=by
 unfold jP;rw[Bool.and_eq_true,List.all_eq_true];exact⟨by simpa using h.1,fun i hi=>h.2.2 i (List.mem_range.1 hi)⟩
def wy (l:List Ent):List Int:=hd l++idx l
def pk (l:List Ent):List Int:=wy l++num (rS (wy l)) 4
theorem bu (e:Ent):mH (oj e):=yq (uV _ _) (yq (uV _ _) (yq (a:=[_]) (pT (by omega) (by omega)) (uA _)))
theorem nW:∀l:List Ent,mH (l.map oj).flatten
 | []=>pS
 | e::l=>yq (bu e) (nW l)
theorem dU (l:List Ent) (h:l.length≤64):mH (wy l):=yq (yq (uV _ _) (nW l)) (cB l h)
theorem bv {e:Ent}(h:e.text.size≤60):(oj e).length≤77:=by
 unfold oj;simp only[List.length_append,List.length_cons,yo,xS];omega
theorem sG:∀(l:List Ent),(∀e∈l,e.text.size≤60)→(l.map oj).flatten.length≤77*l.length
 | [],_=>by simp
 | e::l,h=>by
  have h1:=sG l (fun x hx=>h x (by simp[hx]));have h2:=bv (h e (by simp));simp only[List.map_cons,List.flatten_cons,List.length_append,List.length_cons];omega
theorem wV {l:List Ent}(h:dQ l):∀e∈l,e.text.size≤60:=by
 intro e he;have:=kA h e he;unfold dR at this;simp only[Bool.and_eq_true,decide_eq_true_iff]at this;exact this.2
theorem qX:∀(xs:List ByteArray) (Ls:List (List ByteArray)),Ls.length≤64→(∀x∈xs,x.size≤60)→(tQ xs Ls).length≤126*xs.length
 | [],_,_,_=>by simp[tQ]
 | x::xs,Ls,h,hx=>by
  have h1:=qX xs (tS Ls x Ls.length) (by rw[vO];exact h) (fun y hy=>hx y (by simp[hy]));have h2:=hx x (by simp);have h3:=iI Ls x Ls.length;simp only[tQ,List.length_append,List.length_cons,xS];omega
theorem nS {l:List Ent}(h:dQ l):(wy l).length≤500000:=by
 have h1:=sG l (wV h);have h2:=qX (mw l) (ws l) (by simpa [ws] using h.2.1) (fun x hx=>jm l (wV h) hx);have h3:=aN l (wV h);have h4:=h.2.1;unfold wy hd idx;simp only[List.length_append,yo];omega
theorem iA {l:List Ent}{k:Nat}(h:k<l.length):((l.take (k+1)).map oj).flatten=((l.take k).map oj).flatten++oj (l.getD k e0):=by
 rw[List.take_succ_eq_append_getElem h,List.map_append,List.flatten_append];simp[List.getD,h]
theorem zt {w:World}{nb k o:Nat}{u:Value}(h:k≠nb):(w.setCell ⟨nb,o,none⟩ u).heap[k]? = w.heap[k]? := by
 simp[World.setCell,Array.getElem?_modify];intro e;exact absurd e.symm h
theorem Tryz.info66:(Tryz.prog.info? 66).map (fun i=>(i.zero,i.size,i.bytes))=some (some (.agg #[.int .i64 0, .int .i64 0, .string ByteArray.empty]),3,32):=by kernel_rfl
abbrev eC (e:Ent):List Value:=[.int .i64 e.seq, .int .i64 e.time, .string e.text]
def CurE (w0 w:World) (v:Value) (l:List Ent):Prop:=Below w0.heap.size w0 w∧w.ownsRow w0.heap.size 66 3 v l.length (l.flatMap eC)
theorem ya:∀(l:List Ent) (j:Nat),j<l.length→(l.flatMap eC)[j*3]? = some (.int .i64 (l.getD j e0).seq)∧(l.flatMap eC)[j*3+1]? = some (.int .i64 (l.getD j e0).time)∧(l.flatMap eC)[j*3+2]? = some (.string (l.getD j e0).text)
 | [],_,h=>by simp at h
 | e::l,0,_=>by simp[List.flatMap_cons]
 | e::l,j+1,h=>by
  have:=ya l j (by simpa using h);rw[List.flatMap_cons,show(j+1)*3=(eC e).length+j*3 by simp;omega,show(eC e).length+j*3+1=(eC e).length+(j*3+1) by omega,show(eC e).length+j*3+2=(eC e).length+(j*3+2) by omega];rw[List.getElem?_append_right (by omega),List.getElem?_append_right (by omega),List.getElem?_append_right (by omega)];simp only[Nat.add_sub_cancel_left]
  simpa [List.getD] using this
theorem vS {w:World}{B:Nat}{v:Value}{l:List Ent}(h:w.ownsRow B 66 3 v l.length (l.flatMap eC)):RdE w v l:=by
 have hc:=fun g hg=>h.cells (g:=g) hg
 rcases h.2 with⟨h0,h1⟩|⟨g,cap,cur,hv,_,hg,h1,h2,_⟩
 ·have:=List.length_eq_zero_iff.1 h1;subst this;exact⟨none,0,h0,Nat.le_refl _,by unfold maxLen;omega,Or.inl rfl⟩
 ·refine⟨_,cap,hv,h1,h2,Or.inr ⟨g,0,rfl,fun j hj=>?_⟩⟩;have hh:=hc g (by rw[hv];rfl);obtain⟨q0,q1,q2⟩:=ya l j hj
  have hadd:∀i,(⟨g,0,none⟩:Addr).add i=⟨g,0+i,none⟩:=fun i=>by unfold Addr.add;split <;> simp_all
  exact⟨by have:=hh _ _ q0;rwa [hadd]at this,by have:=hh _ _ q1;rwa [hadd]at this,by have:=hh _ _ q2;rwa [hadd]at this⟩
theorem wk {w0 w w2:World}{v v2:Value}{o:Obj}{l:List Ent}{e:Ent}(h:CurE w0 w v l) (h2:w2.ownsRow w0.heap.size 66 3 v2 (l.length+1) (l.flatMap eC++eC e)) (hg:(w.alloc o).grownBy w2 v.ownBlock):CurE w0 w2 v2 (l++[e]):=by
 refine⟨?_,by simpa [List.flatMap_append] using h2⟩;refine(h.1.trans ((zi w o).mono h.1.size)).grown hg (by have:=h.1.size;simp;omega) ?_;intro k hk;exact(h.2.lt k hk).1
theorem yg (w:World) (x y z:Value) (t:TypeId):∀j u,[x,y,z][j]? = some u→(w.alloc (.cells #[x,y,z] t)).cell? ((⟨w.heap.size,0,none⟩:Addr).add j)=some u:=by
 intro j u hj
 have hadd:(⟨w.heap.size,0,none⟩:Addr).add j=⟨w.heap.size,j,none⟩:=by unfold Addr.add;split <;> simp_all
 have hb:(w.alloc (.cells #[x,y,z] t)).heap[w.heap.size]? = some (.cells #[x,y,z] t (0,0)):=by
  show(w.heap.push _)[w.heap.size]? = _;rw[Array.getElem?_push,if_pos rfl]
 rw[hadd];simp only[World.cell?,hb]
 simpa using hj
end Go.Proofs.YtkncboinfcnklaaGreatDoor
namespace Go.Proofs.YtkncboinfcnklaaGreatDoor.Mth
open Go.RowKit
def rT:List Int→Int
 | []=>0
 | x::l=>x*((l.length:Int)+1)+rT l
theorem jL (l:List Int) (x:Int):rT (l++[x])=rT l+l.sum+x:=by
 induction l with
 | nil=>simp[rT]
 | cons y l ih=>
  simp only[List.cons_append,rT,ih,List.length_append,List.length_singleton,List.sum_cons];rw[show((l.length+1:Nat):Int)+1=((l.length:Int)+1)+1 by omega,Int.mul_add y ((l.length:Int)+1) 1];omega
theorem aU (l:List Int):(sm l).2=((l.length:Int)+rT l) % 65521:=by
 suffices h:∀(r:List Int),(sm r.reverse).2=((r.reverse.length:Int)+rT r.reverse) % 65521 by
  have:=h l.reverse
  rwa [List.reverse_reverse]at this
 intro r
 induction r with
 | nil=>rfl
 | cons x r ih=>
  rw[List.reverse_cons,kD,jL];have hb:=bE r.reverse;simp only[xy];rw[ih,hb.2.2,List.length_append,List.length_singleton];omega
def oZ:Int→List Int→Int
 | c,[]=>c
 | c,x::l=>oZ ((c+x*(((l.length:Int)+1) % 65521)) % 65521) l
theorem j9:∀(l:List Int) (c:Int),0≤c→c<65521→oZ c l=(c+rT l) % 65521
 | [],c,h0,h1=>by simp[oZ,rT];omega
 | x::l,c,_,_=>by
  rw[oZ,j9 l _ (by omega) (by omega),rT]
  have h:(x*(((l.length:Int)+1) % 65521)) % 65521=(x*((l.length:Int)+1)) % 65521:=by
   rw[Int.mul_emod,Int.emod_emod_of_dvd _ (Int.dvd_refl _),←Int.mul_emod]
  omega
theorem cW (l:List Int):oZ ((l.length:Int) % 65521) l=(sm l).2:=by
 rw[j9 l _ (by omega) (by omega),aU];omega
end Go.Proofs.YtkncboinfcnklaaGreatDoor.Mth
namespace Go.Proofs.YtkncboinfcnklaaGreatDoor.Mth
open Go.RowKit Go.Proofs.YtkncboinfcnklaaGreatDoor
open Classical in
noncomputable def ub (Ls:List (List ByteArray)) (x:ByteArray):List Int:=((List.range Ls.length).filter (fun i=>decide (x∈Ls.getD i []))).map (fun i:Nat=>(i:Int))
noncomputable def yt:List ByteArray→List (List ByteArray)→List Int
 | [],_=>[]
 | x::xs,Ls=>((((x.size:Int) % 256)::tb x)++((((ub Ls x).length:Int) % 256)::ub Ls x))++yt xs Ls
theorem tL:∀(xs:List ByteArray) (Ls Ms:List (List ByteArray)),Ms.length=Ls.length→(∀i,i<Ls.length→∀x∈xs,(x∈Ms.getD i []↔x∈Ls.getD i []))→yt xs Ms=yt xs Ls
 | [],_,_,_,_=>rfl
 | x::xs,Ls,Ms,hl,h=>by
  have e:ub Ms x=ub Ls x:=by
   unfold ub;rw[hl];congr 1;apply List.filter_congr;intro i hi;have:=h i (List.mem_range.1 hi) x (by simp);simp only[decide_eq_decide];exact this
  simp only[yt];rw[e,tL xs Ls Ms hl (fun i hi y hy=>h i hi y (by simp[hy]))]
theorem nj:∀(xs:List ByteArray) (Ls:List (List ByteArray)),xs.Pairwise rW→(∀i,i<Ls.length→(Ls.getD i []).Pairwise rW∧∀y∈Ls.getD i [],y∈xs)→tQ xs Ls=yt xs Ls
 | [],_,_,_=>rfl
 | x::xs,Ls,hx,h=>by
  have hx':=List.pairwise_cons.1 hx
  have hd:∀i,i<Ls.length→((Ls.getD i []).head? = some x↔x∈Ls.getD i []):=by
   intro i hi;obtain⟨h1,h2⟩:=h i hi;generalize Ls.getD i []=L at *
   cases L with
   | nil=>simp
   | cons y L=>
    simp only[List.head?_cons,Option.some.injEq];constructor
    ·rintro rfl;simp
    ·intro hm
     rcases List.mem_cons.1 hm with e|e
     ·exact e.symm
     ·have q1:=(List.pairwise_cons.1 h1).1 x e
      rcases List.mem_cons.1 (h2 y (by simp))with e'|e'
      ·exact e'
      ·exact absurd (List.lt_trans q1 (hx'.1 y e')) (List.lt_irrefl _)
  have e:tP Ls x Ls.length=ub Ls x:=by
   unfold tP ub;congr 1;apply List.filter_congr;intro i hi;unfold hv;simp only[decide_eq_decide];exact hd i (List.mem_range.1 hi)
  have hr:∀i,i<Ls.length→((tS Ls x Ls.length).getD i []).Pairwise rW∧∀y,y∈(tS Ls x Ls.length).getD i []↔(y∈Ls.getD i []∧y≠x):=by
   intro i hi;rw[io hi];obtain⟨h1,h2⟩:=h i hi;have hdi:=hd i hi
   have hvd:(hv Ls x i=true)↔(Ls.getD i []).head? = some x:=by unfold hv;simp
   generalize Ls.getD i []=L at *;by_cases c:L.head? = some x
   ·rw[if_pos ⟨hi,hvd.2 c⟩]
    cases L with
    | nil=>simp at c
    | cons y L=>
     simp only[List.head?_cons,Option.some.injEq]at c;subst c;have hp:=List.pairwise_cons.1 h1;refine⟨hp.2,fun z=>⟨fun hz=>⟨by simp;exact Or.inr hz,fun e=>?_⟩,fun⟨hz,hne⟩=>?_⟩⟩
     ·subst e;exact List.lt_irrefl _ (hp.1 _ hz)
     ·rcases List.mem_cons.1 hz with e|e
      ·exact absurd e hne
      ·exact e
   ·rw[if_neg (fun q=>c (hvd.1 q.2))];refine⟨h1,fun z=>⟨fun hz=>⟨hz,fun e=>?_⟩,fun q=>q.1⟩⟩;subst e;exact c (hdi.2 hz)
  simp only[tQ,yt]
  rw[e,nj xs _ hx'.2 (fun i hi=>by
   rw[vO]at hi;obtain⟨q1,q2⟩:=hr i hi;refine⟨q1,fun y hy=>?_⟩;obtain⟨q3,q4⟩:=(q2 y).1 hy
   rcases List.mem_cons.1 ((h i hi).2 y q3)with e|e
   ·exact absurd e q4
   ·exact e),tL xs Ls _ (vO _ _ _) (fun i hi y hy=>by
    rw[(hr i hi).2 y];refine⟨fun q=>q.1,fun q=>⟨q,fun e=>?_⟩⟩;subst e
    exact List.lt_irrefl _ (hx'.1 _ hy))]
theorem aE (l:List Ent):idx l=num (mw l).length 2++yt (mw l) (ws l):=by
 unfold idx;rw[nj (mw l) (ws l) (yc _).1];intro i hi
 have hi':i<l.length:=by simpa [ws] using hi
 have e:(ws l).getD i []=wd (l[i].text):=by simp[ws,List.getD,hi']
 rw[e];refine⟨(yc _).1,fun y hy=>((yc _).2 y).2 (List.mem_flatten.2 ⟨wd l[i].text,?_,hy⟩)⟩;exact List.mem_map.2 ⟨l[i],List.getElem_mem hi',rfl⟩
end Go.Proofs.YtkncboinfcnklaaGreatDoor.Mth
namespace Go.Proofs.YtkncboinfcnklaaGreatDoor.Mth
open Go.RowKit Go.Proofs.YtkncboinfcnklaaGreatDoor
def xH (c:Int):Int:=if (97≤c∧c≤122)∨(48≤c∧c≤57) then c else if 65≤c∧c≤90 then c+32 else 0
def cut:List UInt8→List Int→List (List UInt8)
 | cur,[]=>if cur.isEmpty then [] else [cur]
 | cur,c::l=>if xH c=0 then(if cur.isEmpty then cut [] l else cur::cut [] l) else cut (cur++[UInt8.ofNat (xH c).toNat]) l
theorem aW {c:Int}(h:xH c=0):sV c=32:=by
 unfold xH at h;unfold sV;split at h
 ·omega
 ·split at h
  ·omega
  ·rename_i h1 h2
   rw[if_neg h2,if_neg h1]
theorem cg {c:Int}(h:xH c≠0):sV c=xH c∧((97≤sV c∧sV c≤122)∨(48≤sV c∧sV c≤57)):=by
 unfold xH at h ⊢;unfold sV;by_cases h1:(97≤c∧c≤122)∨(48≤c∧c≤57)
 ·rw[if_pos h1,if_neg (by omega),if_pos h1];exact⟨rfl,h1⟩
 ·rw[if_neg h1]at h ⊢;by_cases h2:65≤c∧c≤90
  ·rw[if_pos h2];simp only[if_neg h1,if_pos h2];exact⟨trivial,by omega⟩
  ·rw[if_neg h2]at h;exact absurd rfl h
theorem sp_no {n:Nat}(h:(97≤n∧n≤122)∨(48≤n∧n≤57)):Lib.isSp (UInt8.ofNat n)=false:=by
 have hne:∀k:Nat,k<48→UInt8.ofNat n≠UInt8.ofNat k:=fun k hk e=>by
  have:=congrArg UInt8.toNat e;simp at this;omega
 unfold Lib.isSp;simp only[Bool.or_eq_false_iff,beq_eq_false_iff_ne];exact⟨⟨⟨⟨⟨hne 9 (by omega),hne 10 (by omega)⟩,hne 11 (by omega)⟩,hne 12 (by omega)⟩,hne 13 (by omega)⟩,hne 32 (by omega)⟩
theorem uh:∀(l:List Int) (cur:List UInt8),cut cur l=Lib.fieldsGo cur (l.map fun c=>UInt8.ofNat (sV c).toNat)
 | [],cur=>rfl
 | c::l,cur=>by
  rw[List.map_cons,cut,Lib.fieldsGo];by_cases h:xH c=0
  ·have h32:Lib.isSp (UInt8.ofNat (Int.toNat 32))=true:=by decide
   rw[if_pos h,aW h,uh l [],h32];rfl
  ·obtain⟨e,hb⟩:=cg h;rw[if_neg h,if_neg ?_,uh l _,e];rw[sp_no (n:=(sV c).toNat) (by omega)];decide
theorem gR (s:ByteArray):wd s=yi ((cut [] (tb s)).map wN):=by
 unfold wd sy strOfNums Lib.fields;rw[uh];simp only[List.map_map];rfl
theorem bG {s:ByteArray}{m:List ByteArray}(hm:m.Pairwise rW) (h:∀x,x∈m↔x∈(cut [] (tb s)).map wN):m=wd s:=by
 rw[gR];exact tM hm h
end Go.Proofs.YtkncboinfcnklaaGreatDoor.Mth
namespace Go.Proofs.YtkncboinfcnklaaGreatDoor.Mth
open Go.RowKit Go.Proofs.YtkncboinfcnklaaGreatDoor
end Go.Proofs.YtkncboinfcnklaaGreatDoor.Mth
namespace Go.Proofs.YtkncboinfcnklaaGreatDoor.Mth
section
variable {α:Type}{lt:α→α→Prop} [DecidableRel lt]
def mN (lt:α→α→Prop) [DecidableRel lt] (x:α):List α→List α
 | []=>[x]
 | y::l=>if lt x y then x::y::l else y::mN lt x l
theorem je (x:α):∀l:List α,(mN lt x l).length=l.length+1
 | []=>rfl
 | y::l=>by
  unfold mN;split
  ·rfl
  ·rw[List.length_cons,je x l,List.length_cons]
theorem pe (x:α):∀(l:List α) (z:α),z∈mN lt x l↔z=x∨z∈l
 | [],z=>by simp[mN]
 | y::l,z=>by
  unfold mN;split
  ·simp
  ·rw[List.mem_cons,pe x l z,List.mem_cons];constructor
   ·rintro (h|h|h)
    ·exact Or.inr (Or.inl h)
    ·exact Or.inl h
    ·exact Or.inr (Or.inr h)
   ·rintro (h|h|h)
    ·exact Or.inr (Or.inl h)
    ·exact Or.inl h
    ·exact Or.inr (Or.inr h)
theorem gE (h:SOrd lt) (x:α):∀l:List α,l.Pairwise lt→x ∉ l→(mN lt x l).Pairwise lt
 | [],_,_=>by simp[mN]
 | y::l,hl,hx=>by
  have hp:=List.pairwise_cons.1 hl;unfold mN;split
  ·rename_i c
   refine List.pairwise_cons.2 ⟨fun z hz=>?_,hl⟩
   rcases List.mem_cons.1 hz with e|e
   ·rw[e];exact c
   ·exact h.tr _ _ _ c (hp.1 z e)
  ·rename_i c
   refine List.pairwise_cons.2 ⟨fun z hz=>?_,gE h x l hp.2 (fun q=>hx (by simp[q]))⟩
   rcases(pe x l z).1 hz with e|e
   ·rw[e]
    rcases h.tri x y with q|q|q
    ·exact absurd q c
    ·exact absurd (by simp[q]:x∈y::l) hx
    ·exact q
   ·exact hp.1 z e
def ww (lt:α→α→Prop) [DecidableRel lt] (x:α) (done:Bool) (out rest:List α):List α:=out++(if done=true then rest else mN lt x rest)
theorem lA (x y:α) (out rest:List α):ww lt x true out (y::rest)=ww lt x true (out++[y]) rest:=by simp[ww]
theorem lB {x y:α}(h:lt x y) (out rest:List α):ww lt x false out (y::rest)=ww lt x true (out++[x]++[y]) rest:=by simp[ww,mN,h]
theorem dl {x y:α}(h:¬lt x y) (out rest:List α):ww lt x false out (y::rest)=ww lt x false (out++[y]) rest:=by simp[ww,mN,h]
theorem qY (x:α) (out:List α):ww lt x true out []=out∧ww lt x false out []=out++[x]:=by simp[ww,mN]
end
end Go.Proofs.YtkncboinfcnklaaGreatDoor.Mth
