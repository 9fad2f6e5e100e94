import Derived.Test.YtkncboinfcnklaaGreatDoorCards
import Derived.Test.YtkncboinfcnklaaGreatDoorTie
import Derived.Test.YtkncboinfcnklaaGreatDoorQ42
import Derived.Test.YtkncboinfcnklaaGreatDoorTlsFacts3
import Derived.ProofKit
import Derived.OpenShut
import Derived.ShutString
import Derived.ChangeOld
import Derived.JoinedCond
import Derived.Deep.Slices
import Derived.Deep.Strs
import Derived.Deep.DeepHandedRow
import Derived.Deep.DeepWitnessRowRef
import Derived.Lib.LaidTab
import Derived.Lib.LaidU8
set_option maxRecDepth 100000
set_option maxHeartbeats 8000000
namespace Go.Proofs.YtkncboinfcnklaaGreatDoor.tlss
open Go.ChangeShapes Go.WideShapes Go.ChangeAt Go.RowKit Go.Deep Go.Proofs.YtkncboinfcnklaaGreatDoor.Mth
open Go.ChangeMaps (open_string shut_string)
theorem own:ownKnob Tryz.prog.godebug=none:=by kernel_rfl
theorem jg:laidOutB Tryz.prog=true:=j1
theorem gT : Tryz.prog.globalNamed "strings.asciiSpace" = some 0 := by kernel_rfl
theorem gTType:(Tryz.prog.globals[0]?).map (·.type)=some 321:=by kernel_rfl
theorem Z8:Tryz.prog.cellsOf 321=256:=by kernel_rfl
theorem Zx:Tryz.prog.cellsOf 5=1:=by kernel_rfl
theorem Z3:Tryz.prog.cellsOf 27=4:=by kernel_rfl
theorem Z4:Tryz.prog.cellsOf 22=1:=by kernel_rfl
theorem Z7:Tryz.prog.cellsOf 23=1:=by kernel_rfl
theorem bc:Tryz.prog.cellsOf 24=1:=by kernel_rfl
theorem Zz:Tryz.prog.cellsOf 25=1:=by kernel_rfl
theorem qy {W:World}(h:laidMet Tryz.prog Rows.tailsUptoRow.laid W):Tab W:=by
 have hr : Lib.VarReads Tryz.prog W "strings.asciiSpace" Rows.laid_strings_asciiSpace := Lib.laidMet.reads h (.tail _ (.tail _ (.tail _ (.tail _ (.tail _ (.tail _ (.head _)))))))
 obtain⟨g',t',cs,fuel,p,hg',ht',hvar,hd⟩:=hr;obtain rfl:=Option.some.inj (gT.symm.trans hg');obtain rfl:=Option.some.inj (gTType.symm.trans ht')
 have e:Rows.laid_strings_asciiSpace (H:=Unit)=Lib.tabData .u8 Lib.asciiSpaceTab:=by kernel_rfl
 rw[e]at hd;unfold Tab Lib.TabIs;rw[hvar,←Lib.cells_of_tab Tryz.underlying321 Tryz.underlying5 Zx Z8 hd]
theorem gP : Tryz.prog.globalNamed "internal/strconv.uint64pow10" = some 2 := by kernel_rfl
theorem gPType:(Tryz.prog.globals[2]?).map (·.type)=some 427:=by kernel_rfl
theorem Z6:Tryz.prog.cellsOf 427=20:=by kernel_rfl
theorem bZ:Tryz.prog.cellsOf 381=1:=by kernel_rfl
theorem cz {W:World}(h:laidMet Tryz.prog Rows.tailsUptoRow.laid W):Tab10 W:=by
 have hr : Lib.VarReads Tryz.prog W "internal/strconv.uint64pow10" Rows.laid_internal_strconv_uint64pow10 := Lib.laidMet.reads h (.tail _ (.tail _ (.head _)))
 obtain⟨g',t',cs,fuel,p,hg',ht',hvar,hd⟩:=hr;obtain rfl:=Option.some.inj (gP.symm.trans hg');obtain rfl:=Option.some.inj (gPType.symm.trans ht')
 have e:Rows.laid_internal_strconv_uint64pow10 (H:=Unit)=Lib.tabData .u64 Lib.pow10Tab:=by kernel_rfl
 rw[e]at hd;unfold Tab10 Lib.TabIs;rw[hvar,←Lib.cells_of_tab Tryz.underlying427 Tryz.underlying381 bZ Z6 hd]
theorem sD (H:Type) (enc:TypeId × Value→H) (W:World) (base:Nat) (args:Array Value) (ds gs:List (DataW H)) (before:List MemPlace)
  (hval:∀(j:Nat) t v,Tryz.f8.params[j]? = some t→args[j]? = some v→Value.okWide Tryz.prog W .any base t v)
  (hW:DataW.Whole enc Tryz.prog Tryz.f8.params.toList Rows.tailsSpec.vars false W args.toList ds gs before) (hk:Rows.uptoSmall H (ds++gs)=true) (hL:laidMet Tryz.prog Rows.tailsUptoRow.laid W) :
  Calls Tryz.prog 8 args W fun e W'=>∃v,e=.returned v∧Rows.tailsSpec.post enc Tryz.prog Tryz.f8 false true false false W args v W':=by
 have hW':=hW;obtain⟨p,q,hA0,hV,rfl,_,_⟩:=hW;have hA:DataW.TrodAll enc Tryz.prog W 0 (fun _=>true) true Tryz.f8.params.toList args.toList ds p:=hA0;rw[Tryz.params8]at hA hval;obtain⟨v0,vs0,d0,ds0,p0,q0,hargs,rfl,rfl,h0,r0⟩:=trodAll_cons hA;obtain⟨v1,vs1,d1,ds1,p1,q1,rfl,rfl,rfl,h1,r1⟩:=trodAll_cons r0;obtain⟨rfl,rfl,rfl⟩:=trodAll_nil r1
 obtain rfl:args=#[v0,v1]:=by cases args;simp_all
 obtain⟨rfl,rfl⟩:=trodVars_none hV
 have hb:Rows.uptoBulk d0≤1048576∧Rows.uptoBulk d1≤1048576:=by
  have h:Rows.uptoBulkAll (([d0,d1]:List (DataW H))++[])≤1048576:=of_decide_eq_true hk;simp only[List.cons_append,List.nil_append,Rows.uptoBulkAll]at h;omega
 obtain⟨cs,rfl,hcsz⟩:=okWide_struct Tryz.underlying27 (hval 0 27 v0 rfl rfl);obtain⟨a1,len1,cap1,rfl⟩:=okWide_slice Tryz.underlying28 (hval 1 28 v1 rfl rfl)
 have lt0:∀x∈p0,x.block<W.heap.size:=by obtain⟨m,hm⟩:=h0;exact DataW.trod_lt m _ _ _ hm
 have lt1:∀x∈p1,x.block<W.heap.size:=by obtain⟨m,hm⟩:=h1;exact DataW.trod_lt m _ _ _ hm
 have h0':=h0;have h1':=h1;obtain⟨fuel0,hf0⟩:=h0;obtain⟨fuel1,hf1⟩:=h1;obtain⟨y0,y1,y2,y3,n',hx,hlen,z0,z1,z2,z3⟩:=lwin.trod4 Tryz.underlying27 hf0;simp only[Z4,Z7,bc,Zz]at z0 z1 z2 z3;rw[Z3]at hcsz
 obtain⟨c0,c1,c2,c3,rfl⟩:∃c0 c1 c2 c3,cs=#[c0,c1,c2,c3]:=by
  obtain⟨l⟩:=cs
  match l,hcsz with
  | [c0,c1,c2,c3],_=>exact⟨c0,c1,c2,c3,rfl⟩
 have s0:=lwin.slice_in Tryz.underlying22 z0;have s1:=lwin.slice_in Tryz.underlying23 z1;have s2:=lwin.slice_in Tryz.underlying24 z2;simp[Value.cells]at s0 s1 s2 z3 hf1;obtain⟨Cs,rC,nC⟩:=lwin.cfs_in (p:=y3.2) (d:=y3.1) z3
 have hd0:Rows.uptoBulk y3.1≤Rows.uptoBulk d0:=by
  injection hx with hx _
  rw[hx];exact lwin.agg_le (by simp)
 obtain⟨ops,rO,kO,nO⟩:=lwin.opsH_in hf1 hb.2
 have ht:TabB W.heap.size W:=fun W' q=>(qy hL).below q (Nat.le_refl _)
 have ht':Tab10B W.heap.size W:=fun W' q=>(cz hL).below q (Nat.le_refl _)
 clear hA0 hf0 hf1
 refine(Lw.o8 W c0 c1 c2 c3 _ Cs ops s0 s1 s2 rC (by omega) ht ht' rO kO (by omega)).mono fun e W' ⟨he,bel⟩=>?_
 subst he;exact⟨_,rfl,_,_,_,[],_,[],hW',trodAll_mk1 (shut_bool Tryz.underlying4 _),(trodAll_cons_mk (Below.trod jg (by kernel_rfl) (of_decide_eq_true (by kernel_rfl)) h0' bel lt0) (trodAll_cons_mk (Below.trod jg (by kernel_rfl) (of_decide_eq_true (by kernel_rfl)) h1' bel lt1) trodAll_mk0)),rfl,bel.frame _,fun h=>by cases h⟩
noncomputable def vK (os:Os):World:=
 let N:=(World.settled Tryz.prog os).heap.size
 let w0:=World.holding Tryz.prog os ⟨#[.cells (Lib.whiteT.map fun(z:Nat)=>Value.int .u16 (z:Int)).toArray 388, .cells #[.slice (some ⟨N,0,none⟩) 7 7, .slice none 0 0, .int .i64 2] 385, .cells #[.string ⟨#[118,97,108,117,101,32,111,117,116,32,111,102,32,114,97,110,103,101]⟩] 436, .cells #[.string ⟨#[105,110,118,97,108,105,100,32,115,121,110,116,97,120]⟩] 436],#[],[]⟩
 let put (h:Array Obj) (g:Nat) (cs:Array Value):Array Obj:=h.modify g fun
  | .cells _ t frozen=>.cells cs t frozen
  | o=>o
 let h1:=put w0.heap 0 (Lib.asciiSpaceTab.map fun z=>Value.int .u8 z).toArray
 let h2:=put h1 1 #[.pointer (some ⟨N+1,0,none⟩)]
 let h3:=put h2 2 (([1,10,100,1000,10000,100000,1000000,10000000,100000000,1000000000,10000000000,100000000000,1000000000000,10000000000000,100000000000000,1000000000000000,10000000000000000,100000000000000000,1000000000000000000,10000000000000000000]:List Int).map fun z=>Value.int .u64 z).toArray
 let h4:=put h3 3 #[.iface 434 (.pointer (some ⟨N+3,0,none⟩))]
 let h5:=put h4 4 #[.iface 434 (.pointer (some ⟨N+2,0,none⟩))]
 let h6:=put h5 5 (([0,1,28,2,29,14,24,3,30,22,20,15,25,17,4,8,31,27,13,23,21,19,16,7,26,12,18,6,11,5,10,9]:List Int).map fun z=>Value.int .u8 z).toArray
 let h7:=put h6 6 (([0,1,56,2,57,49,28,3,61,58,42,50,38,29,17,4,62,47,59,36,45,43,51,22,53,39,33,30,24,18,12,5,63,55,48,27,60,41,37,16,46,35,44,21,52,32,23,11,54,26,40,15,34,20,31,10,25,14,19,9,13,8,7,6]:List Int).map fun z=>Value.int .u8 z).toArray
 { w0 with heap:=h7 }
def wit:Array Value:=#[.agg #[.slice none 0 0, .slice none 0 0, .slice none 0 0, .slice none 0 0], .slice none 0 0]
theorem dy (os:Os) (args:Array Value):laidMet Tryz.prog Rows.tailsUptoRow.laid ((vK os).forCall (fun _ _=>0) ⟨#[],args,[]⟩).memory:=
 laidMet_of_run' 10 (by kernel_rfl) (by kernel_rfl)
theorem nM (os:Os){H:Type}(enc:TypeId × Value→H) :
  (Rows.OpenSpec.upto Rows.tailsSpec).preRow enc Tryz.prog Tryz.f8 Rows.tailsUptoRow.domain false Rows.tailsUptoRow.laid ((vK os).forCall (fun _ _=>0) ⟨#[],wit,[]⟩).memory wit:=by
 have hw:(DataW.whole enc Tryz.prog ((vK os).forCall (fun _ _=>0) ⟨#[],wit,[]⟩).memory Tryz.f8.params.toList Rows.tailsSpec.vars false wit.toList 8).map (fun x=>(x.1,x.2.1)) =
   some ([.agg [.nil, .nil, .nil, .nil], .nil],[]):=by kernel_rfl
 obtain⟨⟨x1,x2,x3⟩,hx,hx1⟩:=Option.map_eq_some_iff.1 hw;simp only[Prod.mk.injEq]at hx1;obtain⟨rfl,rfl⟩:=hx1;exact OpenSpec.preRow_of_cond 8 hx (by kernel_rfl) (fun k hk=>by cases hk;kernel_rfl) (by kernel_rfl) (dy os _)
theorem aK (os:Os) (started:os.Started) (H:Type) (enc:TypeId × Value→H) (F:Stop.Interp) :
  ReturnsInHanded {} Tryz.checked os 8 .any ((Rows.OpenSpec.upto Rows.tailsSpec).preRow enc Tryz.prog Tryz.f8 Rows.tailsUptoRow.domain false Rows.tailsUptoRow.laid) (((Rows.OpenSpec.upto Rows.tailsSpec).at F).post enc Tryz.prog Tryz.f8 false true false false):=by
 refine returnsInHanded_of_row (C:=Tryz.checked) (s:=Rows.OpenSpec.upto Rows.tailsSpec) own started (by kernel_rfl) Tryz.func8
  (witness_row_atRef (enc:=enc) (C:=Tryz.checked) false (vK os) wit rfl (by kernel_rfl) (by kernel_rfl) (by kernel_rfl) (nM os enc)) ?_
 intro W base args ds gs before hval hW _ hcond _ hL _ _;exact sD H enc W base args ds gs before hval hW (hcond _ rfl) hL
theorem said:Rows.TailsUptoSaid:=
 OpenClaim.holds_of_cond 8 Tryz.f8 rfl rfl rfl rfl rfl rfl rfl ⟨rfl,rfl,rfl,rfl,rfl⟩ rfl rfl rfl rfl rfl (by kernel_rfl) Tryz.func8 closed
  (of_decide_eq_true (by kernel_rfl)) (by unfold Func.isWrapper;first|(rw[if_pos (by decide +kernel)];kernel_rfl)|(rw[if_neg (by decide +kernel)];exact⟨rfl,rfl⟩))
  (fun os started H enc _ F=>by rw[OpenClaim.pre_eq_preRow];exact aK os started H enc F)
theorem plain (f : FuncId) (fn : Func) (hf : Tryz.pinned.checked.prog.funcNamed "almanac/almanaclaw.Tails" = some f) (hfn : Tryz.pinned.checked.prog.funcs[f]? = some fn) :
  true=Tryz.pinned.checked.prog.looks []∧∀(j:Nat) t,fn.params[j]? = some t→Tryz.pinned.checked.prog.wantsStandIn t=false:=by
 obtain rfl : f = 8 := Option.some.inj ((show Tryz.prog.funcNamed "almanac/almanaclaw.Tails" = some 8 by kernel_rfl).symm.trans hf) |>.symm
 obtain rfl:fn=Tryz.f8:=(Option.some.inj (Tryz.func8.symm.trans hfn)).symm;refine⟨by kernel_rfl,fun j t ht=>?_⟩;rw[Tryz.params8]at ht;have hm:=Array.mem_of_getElem? ht;simp at hm
 rcases hm with rfl|rfl
 ·exact(show Tryz.prog.wantsStandIn 27=false by kernel_rfl)
 ·exact(show Tryz.prog.wantsStandIn 28=false by kernel_rfl)
theorem proved:Rows.TailsUptoCardSaid:=
 Claim7.holds_tied_plain_at .later [] _ _ _ _ said (fun _ h=>by cases h) (by kernel_rfl) (fun _ h=>by cases h) tailsUpto_row_tie rfl ⟨rfl,rfl⟩ (by kernel_rfl) rfl plain (by kernel_rfl)
#print axioms proved
end Go.Proofs.YtkncboinfcnklaaGreatDoor.tlss
