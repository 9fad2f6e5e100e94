import Derived.Test.YtkncboinfcnklabGreatDoorQ9
import Derived.Test.YtkncboinfcnklabGreatDoorQ4
import Derived.BigRegion
import Derived.Test.YtkncboinfcnklabGreatDoorShelf2
import Derived.Lib.ItoaLen
namespace Go.Proofs.YtkncboinfcnklabGreatDoor
open Go.RowKit Go.Deep Go.Proofs.YtkncboinfcnklabGreatDoor.Mth

theorem rdE_nil (w : World) : RdE w (.slice none 0 0) [] := ⟨none, 0, rfl, Nat.le_refl _, by unfold maxLen; omega, Or.inl rfl⟩

/-- A segment whose blocks are all new. -/
structure NewSeg (w w' : World) (B s : Nat) (es : List Ent) (ev : Value) (mb : Nat) : Prop where
  seg : SegAt w' B s es ev mb
  bel : Below w.heap.size w w'
  new : ∀ g, ownS s mb ev g → w.heap.size ≤ g

theorem NewSeg.more {w w1 w2 : World} {B s mb : Nat} {es es' : List Ent} {ev ev' : Value} (h : NewSeg w w1 B s es ev mb) (h2 : SegStp w1 w2 B s mb ev es' ev') : NewSeg w w2 B s es' ev' mb := by
  refine ⟨h2.seg, below_tch h.bel h2.tch h.new h.bel.size, fun g hg => ?_⟩
  rcases hg with q | q | q
  · exact h.new g (Or.inl q)
  · rcases h2.new g q with q | q
    · exact h.new g (Or.inr (Or.inl q))
    · exact Nat.le_trans h.bel.size q
  · exact h.new g (Or.inr (Or.inr q))

set_option maxRecDepth 100000 in
set_option maxHeartbeats 4000000 in
theorem newSeg_any (w : World) (B : Nat) (hB : B ≤ w.heap.size) (ht : Tab w) {v : Value} {es : List Ent} (hv : RdE w v es) (hx : ∀ e ∈ es, e.text.size ≤ 60) (hl : es.length ≤ 1048576) :
    Calls Tryz.prog 36 #[v] w fun r w' => ∃ s mb ev, r = .returned (.pointer (some ⟨s, 0, none⟩)) ∧ NewSeg w w' B s es ev mb := by
  have hmm := @run_makeMap Tryz.prog
  obtain ⟨a, c, rfl, hc, hm⟩ := rdE_len hv
  unfold maxLen at hm
  obtain ⟨W, hW⟩ : ∃ W, W = (w.alloc (Obj.map #[] 0)).alloc (Obj.cells #[.slice none 0 0, .map (some w.heap.size)] 124) := ⟨_, rfl⟩
  have HNS : Hid (NewSeg w W B (w.heap.size + 1) [] (.slice none 0 0) w.heap.size) := by
    have b1 := below_allocG w (Obj.map #[] 0)
    have b2 := below_allocG (w.alloc (Obj.map #[] 0)) (Obj.cells #[.slice none 0 0, .map (some w.heap.size)] 124)
    refine ⟨⟨?_, World.ownsRow_nil _ _ _ _, ?_, by omega, hB⟩, by rw [hW]; exact b1.trans (b2.mono b1.size), fun g hg => ?_⟩
    · have := new_blk (w.alloc (Obj.map #[] 0)) #[.slice none 0 0, .map (some w.heap.size)] 124
      rw [World.size_alloc] at this
      rw [hW]
      exact this
    · rw [hW]
      exact (Idx.made w 0).same (b2.block _ (by simp)) (fun g hg => b2.block _ (isN_lt hg))
    · rcases hg with q | q | q
      · omega
      · simp [Value.ownBlock] at q
      · omega
  have HV := hide hv
  have HX := hide hx
  have HT := hide ht
  have HW := hide hW
  clear hv hx ht hW
  generalize hn : es.length = n at *
  have HN := hide hn
  clear hn
  go_enter Tryz.func36, Tryz.ntmps36
  go_wp2_with fail
  rw [← HW.out]
  clear hmm
  go_loopw [11] (fun i wr => ∃ k : Nat, k ≤ n ∧ i = .int .i64 k ∧ ∃ ev, NewSeg w wr B (w.heap.size + 1) (es.take k) ev w.heap.size) (fun i _ => n - (intOf i).toNat)
  case atStart => exact ⟨0, Nat.zero_le _, rfl, _, HNS.out⟩
  case round =>
    obtain ⟨k, hk, rfl, ev, hNS⟩ := hrel
    have HNS2 := hide hNS
    clear hNS
    by_cases hlt : k < n
    · obtain ⟨b, o, rfl, hblt, d0, d1, d2⟩ := rdE_at (HV.out.below HNS2.out.bel) k (by rw [HN.out]; exact hlt)
      have HTK := hide (take_snoc (by rw [HN.out]; exact hlt : k < es.length) e0)
      have htx : (es.getD k e0).text.size ≤ 60 := HX.out _ (getDmem (by rw [HN.out]; exact hlt))
      have hlen : (es.take k).length ≤ 1048576 := by rw [List.length_take]; omega
      obtain ⟨f, hf⟩ : ∃ f, f = es.getD k e0 := ⟨_, rfl⟩
      rw [← hf] at d0 d1 d2 htx
      have HTK2 : Hid (es.take (k + 1) = es.take k ++ [f]) := by rw [hf]; exact HTK.out
      clear HTK hf
      obtain ⟨fs, ft, fx⟩ := f
      simp only at d0 d1 d2 htx
      have hb0 := below_allocG wr (Obj.cells #[.int .i64 fs, .int .i64 ft, .string fx] 49)
      have hBw := HNS2.out.bel
      have CA := hide (addSeg_any (HNS2.out.seg.below hb0) (by have := hBw.size; simp; omega) ((HT.out.below hBw (Nat.le_refl _)).below hb0 (Nat.le_refl _)) ⟨fs, ft, fx⟩ htx hlen)
      have HB0 := hide hb0
      clear hb0 hBw
      go_wp2_with (first | (go_at_call 61; refine CA.out.mono ?_; rintro e w4 ⟨rfl, ev4, hs4⟩; have HS4 := hide hs4; clear hs4))
      have HNS3 : Hid (NewSeg w w4 B (w.heap.size + 1) (es.take (k + 1)) ev4 w.heap.size) := by
        rw [HTK2.out]
        have h0 : NewSeg w (wr.alloc (Obj.cells #[.int .i64 fs, .int .i64 ft, .string fx] 49)) B (w.heap.size + 1) (es.take k) ev w.heap.size := ⟨HNS2.out.seg.below HB0.out, HNS2.out.bel.trans (HB0.out.mono HNS2.out.bel.size), HNS2.out.new⟩
        exact h0.more HS4.out
      go_roundw
      case rel => exact ⟨k + 1, by omega, by go_num, ev4, HNS3.out⟩
      case measure => simp [intOf]; omega
    · have hke : k = n := by omega
      subst hke
      have HF : Hid (es.take k = es) := List.take_of_length_le (by rw [HN.out]; exact Nat.le_refl _)
      go_wp2
      go_ret
      exact ⟨_, _, ev, rfl, by have := HNS2.out; rwa [HF.out] at this⟩
end Go.Proofs.YtkncboinfcnklabGreatDoor

namespace Go.Proofs.YtkncboinfcnklabGreatDoor
open Go.RowKit Go.Deep Go.Proofs.YtkncboinfcnklabGreatDoor.Mth

set_option maxRecDepth 100000 in
set_option maxHeartbeats 4000000 in
theorem apiSync_yes {w : World} {B b d : Nat} {fs : List Fl} {left : Int} {fv : Value} (h : St 82 87 w B b fs left fv) (hp : Ptr 104 w d b) (h1 : -1 ≤ left) (h2 : left < 9223372036854775808) (q : left ≠ 0) (x : ByteArray) (r : Int) (hr : At fs x r) :
    Calls Tryz.prog 85 #[.pointer (some ⟨d, 0, none⟩), .string x] w fun e w' => e = .returned (.bool true) ∧ ∃ fv', Stp 82 87 B b w w' fv (aSync fs r) (decL left) fv' := by
  have CS := hide (apiStep_any h h1 h2)
  rw [decide_eq_true q] at CS
  obtain ⟨p0, _⟩ := cell_of (j := 0) (u := .pointer (some ⟨b, 0, none⟩)) hp rfl
  have HR := hide hr
  have HP := hide hp
  have HS := hide h
  generalize decL left = l1 at *
  generalize hfs : aSync fs r = fs' at *
  have HFS := hide hfs
  clear h h1 h2 q hfs hr hp
  go_enter Tryz.func85, Tryz.ntmps85
  go_wp2_with fail
  refine CS.out.mono ?_
  rintro e w1 ⟨rfl, hs⟩
  have HT := hide hs
  have HP1 := hide (HP.out.keep HS.out hs.tch (by decide) (by decide))
  have CF := hide (find_any hs.st x)
  obtain ⟨p1, _⟩ := cell_of (j := 0) (u := .pointer (some ⟨b, 0, none⟩)) HP1.out rfl
  clear hs CS p0 HP HS
  go_wp2_with fail
  refine CF.out.mono ?_
  rintro e w2 ⟨r', rfl, hr, rfl⟩
  have hrr := at_one HR.out hr
  subst hrr
  clear CF
  obtain ⟨a, c, rfl, hc, hm⟩ := own_slice HT.out.st.own
  unfold maxLen at hm
  obtain ⟨c0, f0⟩ := cell_of (j := 0) (u := .slice a fs.length c) HT.out.st.blk rfl
  rcases hr with ⟨rfl, _⟩ | ⟨i, hi, rfl, _, _⟩
  · have HFR : Hid (fs' = fs) := HFS.out.symm
    go_wp2
    go_ret
    exact ⟨rfl, _, by rw [HFR.out]; exact HT.out⟩
  · have HFR : Hid (fs' = setS fs i (fs.getD i fl0).data.size) := by
      show _ = _
      rw [← HFS.out]
      unfold aSync
      rw [if_neg (by omega), Int.toNat_natCast]
    have HTD := hide (HT.out.below (drewB w2))
    have hown := HTD.out.st.own
    obtain ⟨g, rfl⟩ := own_some hown (by omega)
    obtain ⟨_, e3, _⟩ := own_fl (k := i) hown rfl hi
    obtain ⟨⟨y2, e4⟩, hfr⟩ := own_at (i := i * 3 + 2) hown (by omega)
    obtain ⟨q1, _⟩ := cell_of (j := 0) (u := .pointer (some ⟨b, 0, none⟩)) (HP1.out.below (drewB w2)) rfl
    obtain ⟨q0, _⟩ := cell_of (j := 0) (u := .slice (some ⟨g, 0, none⟩) fs.length c) HTD.out.st.blk rfl
    generalize hdt : (fs.getD i fl0).data = dt at *
    have ST2 := hide (HTD.out.st.store (i := i * 3 + 2) (y := .int .i64 (dt.size : Int)) (fs' := setS fs i dt.size) (by decide) rfl (by omega) (by simp [setS]) (fC_set2 dt.size hi))
    clear hdt hown
    generalize hn : fs.length = n at *
    have HN := hide hn
    clear hn
    go_wp2_with fail
    go_region
    all_goals (go_wp2; go_ret; exact ⟨rfl, _, by rw [HFR.out]; first | exact HTD.out.trans ST2.out | (rw [HN.out]; exact HTD.out.trans ST2.out)⟩)
end Go.Proofs.YtkncboinfcnklabGreatDoor

namespace Go.Proofs.YtkncboinfcnklabGreatDoor
open Go.RowKit Go.Deep Go.Proofs.YtkncboinfcnklabGreatDoor.Mth

theorem conv_two (w : World) (x y : Int) : (convert 146 9 (.slice (some ⟨w.heap.size, 0, none⟩) 2 2)).run Tryz.prog (w.alloc (.cells #[.int .u8 x, .int .u8 y] 5)) = .ok (.string (strOfNums [x, y])) (w.alloc (.cells #[.int .u8 x, .int .u8 y] 5)) := by
  refine run_convert_bytes_arg (P := Tryz.prog) _ 146 5 Tryz.underlying146 Tryz.underlying5 w.heap.size 0 2 2 [x, y] rfl (fun i hi => ?_) 9 Tryz.underlying9
  have hb := new_blk w #[.int .u8 x, .int .u8 y] 5
  rcases (show i = 0 ∨ i = 1 by omega) with rfl | rfl
  · exact (cell_of (j := 0) hb rfl).1
  · exact (cell_of (j := 1) hb rfl).1
/-- A record: its kind, the length of its body, the body. -/
def recB (k : Int) (s : ByteArray) : ByteArray := strOfNums [k, (s.size : Int)] ++ s
theorem strOfNums_size (l : List Int) : (strOfNums l).size = l.length := by
  simp [strOfNums, ByteArray.size]
theorem recB_size (k : Int) (s : ByteArray) : (recB k s).size = 2 + s.size := by
  unfold recB
  rw [ByteArray.size_append, strOfNums_size]
  rfl

set_option maxHeartbeats 1000000 in
theorem record_any (k : Int) (_h0 : 0 ≤ k) (_h1 : k < 256) (s : ByteArray) (hs : s.size ≤ 255) (w : World) :
    Calls Tryz.prog 111 #[.int .u8 k, .string s] w fun e w' => e = .returned (.string (recB k s)) ∧ Below w.heap.size w w' := by
  have hcv := conv_two w k (s.size : Int)
  have hB := hide (below_allocG w (.cells #[.int .u8 k, .int .u8 (s.size : Int)] 5))
  have hadd := fun w => plus_at (strOfNums [k, (s.size : Int)]) s w (by rw [strOfNums_size]; simp; omega)
  generalize hr : strOfNums [k, (s.size : Int)] ++ s = rr at *
  have HR : Hid (recB k s = rr) := hr
  generalize strOfNums [k, (s.size : Int)] = hd at *
  clear hr
  go_enter Tryz.func111, Tryz.ntmps111
  go_wp2
  go_ret
  exact ⟨by rw [HR.out]; rfl, hB.out⟩

/-- A journal: its disk; the clock; how many entries there were. -/
structure JAt (w : World) (B jb db sb : Nat) (fs : List Fl) (left : Int) (fv : Value) (clock count : Nat) : Prop where
  blk : w.heap[jb]? = some (Obj.cells #[.pointer (some ⟨db, 0, none⟩), .int .i64 (clock : Int), .int .i64 (count : Int)] 140 (0, 0))
  ptr : Ptr 104 w db sb
  st : St 82 87 w B sb fs left fv
  ge : B ≤ jb ∧ B ≤ db
def ownJ (jb db sb : Nat) (fv : Value) (k : Nat) : Prop := k = jb ∨ k = db ∨ ownD sb fv k
theorem JAt.same {w w' : World} {B jb db sb : Nat} {fs : List Fl} {left : Int} {fv : Value} {clock count : Nat} (h : JAt w B jb db sb fs left fv clock count) (hs : ∀ g, ownJ jb db sb fv g → w'.heap[g]? = w.heap[g]?) : JAt w' B jb db sb fs left fv clock count :=
  ⟨(hs jb (Or.inl rfl)).trans h.blk, (hs db (Or.inr (Or.inl rfl))).trans h.ptr, h.st.same (fun g hg => hs g (Or.inr (Or.inr hg))), h.ge⟩
theorem JAt.ownLt {w : World} {B jb db sb : Nat} {fs : List Fl} {left : Int} {fv : Value} {clock count : Nat} (h : JAt w B jb db sb fs left fv clock count) {k : Nat} (hk : ownJ jb db sb fv k) : k < w.heap.size ∧ B ≤ k ∧ ¬ isN w k := by
  rcases hk with rfl | rfl | hk | hk
  · exact ⟨(Array.getElem?_eq_some_iff.1 h.blk).1, h.ge.1, fun ⟨C, fr, q⟩ => by rw [h.blk] at q; injection q with q; injection q with _ q _; exact absurd q (by decide)⟩
  · exact ⟨(Array.getElem?_eq_some_iff.1 h.ptr).1, h.ge.2, fun ⟨C, fr, q⟩ => by rw [h.ptr] at q; injection q with q; injection q with _ q _; exact absurd q (by decide)⟩
  · subst hk
    exact ⟨h.st.lt, h.st.ge, fun ⟨C, fr, q⟩ => by rw [h.st.blk] at q; injection q with q; injection q with _ q _; exact absurd q (by decide)⟩
  · obtain ⟨h1, h2, D, hD⟩ := own_block h.st.own hk
    exact ⟨h2, h1, fun ⟨C, fr, q⟩ => by rw [hD] at q; injection q with q; injection q with _ q _; exact absurd q (by decide)⟩
theorem JAt.below {w w' : World} {B jb db sb : Nat} {fs : List Fl} {left : Int} {fv : Value} {clock count : Nat} (h : JAt w B jb db sb fs left fv clock count) (hb : Below w.heap.size w w') : JAt w' B jb db sb fs left fv clock count :=
  h.same fun g hg => hb.block g (h.ownLt hg).1

/-- What a call leaves of a journal. -/
structure JStp (w w' : World) (B jb db sb : Nat) (fv : Value) (fs' : List Fl) (left' : Int) (fv' : Value) (clock' count' : Nat) : Prop where
  j : JAt w' B jb db sb fs' left' fv' clock' count'
  tch : Tch (ownJ jb db sb fv) w w'
  new : ∀ g, some g = fv'.ownBlock → some g = fv.ownBlock ∨ w.heap.size ≤ g
theorem JStp.trans {w w1 w2 : World} {B jb db sb : Nat} {fv fv1 fv2 : Value} {fs1 fs2 : List Fl} {l1 l2 : Int} {c1 c2 n1 n2 : Nat} (h1 : JStp w w1 B jb db sb fv fs1 l1 fv1 c1 n1) (h2 : JStp w1 w2 B jb db sb fv1 fs2 l2 fv2 c2 n2) : JStp w w2 B jb db sb fv fs2 l2 fv2 c2 n2 := by
  refine ⟨h2.j, h1.tch.trans h2.tch (fun k hk q => ?_), fun g hg => ?_⟩
  · rcases q with q | q | q | q
    · exact Or.inl q
    · exact Or.inr (Or.inl q)
    · exact Or.inr (Or.inr (Or.inl q))
    · rcases h1.new k q with q | q
      · exact Or.inr (Or.inr (Or.inr q))
      · omega
  · rcases h2.new g hg with q | q
    · exact h1.new g q
    · exact Or.inr (Nat.le_trans h1.tch.size q)
theorem JStp.below {w w1 w2 : World} {B jb db sb : Nat} {fv fv1 : Value} {fs1 : List Fl} {l1 : Int} {c1 n1 : Nat} (h1 : JStp w w1 B jb db sb fv fs1 l1 fv1 c1 n1) (hb : Below w1.heap.size w1 w2) : JStp w w2 B jb db sb fv fs1 l1 fv1 c1 n1 :=
  ⟨h1.j.below hb, h1.tch.trans (tch_below (S := ownJ jb db sb fv) hb) (fun _ _ q => q), h1.new⟩
theorem JStp.pre {w w1 w2 : World} {B jb db sb : Nat} {fv fv1 : Value} {fs1 : List Fl} {l1 : Int} {c1 n1 : Nat} (hb : Below w.heap.size w w1) (h1 : JStp w1 w2 B jb db sb fv fs1 l1 fv1 c1 n1) : JStp w w2 B jb db sb fv fs1 l1 fv1 c1 n1 :=
  ⟨h1.j, (tch_below (S := ownJ jb db sb fv) hb).trans h1.tch (fun _ _ q => q), fun g hg => (h1.new g hg).imp id (Nat.le_trans hb.size)⟩
theorem JAt.disk {w w' : World} {B jb db sb : Nat} {fs fs' : List Fl} {left left' : Int} {fv fv' : Value} {clock count : Nat} (h : JAt w B jb db sb fs left fv clock count) (hs : Stp 82 87 B sb w w' fv fs' left' fv') : JStp w w' B jb db sb fv fs' left' fv' clock count := by
  have hjd : ¬ ownD sb fv jb := fun q => by
    rcases q with q | q
    · have := h.blk
      rw [q, h.st.blk] at this
      injection this with this
      injection this with _ this _
      exact absurd this (by decide)
    · obtain ⟨_, _, D, hD⟩ := own_block h.st.own q
      rw [h.blk] at hD
      injection hD with hD
      injection hD with _ hD _
      exact absurd hD (by decide)
  refine ⟨⟨(hs.tch.block jb (Array.getElem?_eq_some_iff.1 h.blk).1 hjd).trans h.blk, h.ptr.keep h.st hs.tch (by decide) (by decide), hs.st, h.ge⟩, hs.tch.mono (fun k _ q => Or.inr (Or.inr q)), hs.new⟩

set_option maxHeartbeats 1000000 in
theorem jStopped_any {w : World} {B jb db sb : Nat} {fs : List Fl} {left : Int} {fv : Value} {clock count : Nat} (h : JAt w B jb db sb fs left fv clock count) :
    Calls Tryz.prog 64 #[.pointer (some ⟨jb, 0, none⟩)] w fun e w' => e = .returned (.bool (left == 0)) ∧ w' = w := by
  have CS := hide (stopped_any h.st h.ptr)
  obtain ⟨c0, _⟩ := cell_of (j := 0) (u := .pointer (some ⟨db, 0, none⟩)) h.blk rfl
  clear h
  generalize (left == 0) = bb at *
  go_enter Tryz.func64, Tryz.ntmps64
  go_wp2_with (first | (go_at_call 60; refine CS.out.mono ?_; rintro e w2 ⟨rfl, rfl⟩))
  go_ret
  exact ⟨rfl, rfl⟩
set_option maxHeartbeats 1000000 in
theorem jClock_any {w : World} {B jb db sb : Nat} {fs : List Fl} {left : Int} {fv : Value} {clock count : Nat} (h : JAt w B jb db sb fs left fv clock count) :
    Calls Tryz.prog 49 #[.pointer (some ⟨jb, 0, none⟩)] w fun e w' => e = .returned (.int .i64 (clock : Int)) ∧ w' = w := by
  obtain ⟨c0, _⟩ := cell_of (j := 1) (u := .int .i64 (clock : Int)) h.blk rfl
  clear h
  go_enter Tryz.func49, Tryz.ntmps49
  go_wp2
  go_ret
  exact ⟨rfl, rfl⟩
set_option maxHeartbeats 1000000 in
theorem jNext_any {w : World} {B jb db sb : Nat} {fs : List Fl} {left : Int} {fv : Value} {clock count : Nat} (h : JAt w B jb db sb fs left fv clock count) :
    Calls Tryz.prog 46 #[.pointer (some ⟨jb, 0, none⟩)] w fun e w' => e = .returned (.int .i64 (count : Int)) ∧ w' = w := by
  obtain ⟨c0, _⟩ := cell_of (j := 2) (u := .int .i64 (count : Int)) h.blk rfl
  clear h
  go_enter Tryz.func46, Tryz.ntmps46
  go_wp2
  go_ret
  exact ⟨rfl, rfl⟩
end Go.Proofs.YtkncboinfcnklabGreatDoor

namespace Go.Proofs.YtkncboinfcnklabGreatDoor
open Go.RowKit Go.Deep Go.Proofs.YtkncboinfcnklabGreatDoor.Mth

def jnm : ByteArray := ⟨#[106, 111, 117, 114, 110, 97, 108]⟩
def jf (dt : ByteArray) (sf : Nat) : List Fl := [⟨jnm, dt, sf⟩]

set_option maxRecDepth 100000 in
set_option maxHeartbeats 4000000 in
theorem jWrite_yes {w : World} {B jb db sb : Nat} {dt : ByteArray} {sf : Nat} {left : Int} {fv : Value} {clock count : Nat} (h : JAt w B jb db sb (jf dt sf) left fv clock count) (hB : B ≤ w.heap.size) (h1 : -1 ≤ left) (h2 : left < 9223372036854775808) (q0 : left ≠ 0) (q1 : left ≠ 1)
    (k : Int) (k0 : 0 ≤ k) (k1 : k < 256) (s : ByteArray) (hs : s.size ≤ 255) (hd : dt.size ≤ 1099511627776) :
    Calls Tryz.prog 90 #[.pointer (some ⟨jb, 0, none⟩), .int .u8 k, .string s] w fun e w' => e = .returned (.bool true) ∧ ∃ fv', JStp w w' B jb db sb fv (jf (dt ++ recB k s) (dt ++ recB k s).size) (decL (decL left)) fv' clock count := by
  have hat : At (jf dt sf) jnm 0 := Or.inr ⟨0, by simp [jf], rfl, rfl, fun j hj => absurd hj (Nat.not_lt_zero _)⟩
  have CR : Hid (∀ W, Calls Tryz.prog 111 #[.int .u8 k, .string s] W fun e w' => e = .returned (.string (recB k s)) ∧ Below W.heap.size W w') := fun W => record_any k k0 k1 s hs W
  have hrs := recB_size k s
  have hfl : (flAt (jf dt sf) 0).data = dt := rfl
  have CA : Hid (∀ W, Below w.heap.size w W → Calls Tryz.prog 84 #[.pointer (some ⟨db, 0, none⟩), .string jnm, .string (recB k s)] W fun e w' => e = .returned (.bool true) ∧ ∃ fv', JStp w w' B jb db sb fv (jf (dt ++ recB k s) sf) (decL left) fv' clock count ∧ w'.heap[jb]? = some (Obj.cells #[.pointer (some ⟨db, 0, none⟩), .int .i64 (clock : Int), .int .i64 (count : Int)] 140 (0, 0))) := by
    intro W hW
    have hj := h.below hW
    refine (apiAppend_yes hj.st hj.ptr (Nat.le_trans hB hW.size) h1 h2 q0 (by simp [jf]) jnm (recB k s) 0 hat (by rw [hfl, hrs]; omega)).mono ?_
    rintro e w' ⟨rfl, fv', hs'⟩
    have hs2 : Stp 82 87 B sb W w' fv (jf (dt ++ recB k s) sf) (decL left) fv' := hs'
    have := JStp.pre hW (hj.disk hs2)
    exact ⟨rfl, fv', this, this.j.blk⟩
  have hdl : -1 ≤ decL left ∧ decL left < 9223372036854775808 ∧ decL left ≠ 0 := by unfold decL; split <;> omega
  have CS : Hid (∀ W fv', JStp w W B jb db sb fv (jf (dt ++ recB k s) sf) (decL left) fv' clock count → Calls Tryz.prog 85 #[.pointer (some ⟨db, 0, none⟩), .string jnm] W fun e w' => e = .returned (.bool true) ∧ ∃ fv', JStp w w' B jb db sb fv (jf (dt ++ recB k s) (dt ++ recB k s).size) (decL (decL left)) fv' clock count) := by
    intro W fv1 hj
    have hat2 : At (jf (dt ++ recB k s) sf) jnm 0 := Or.inr ⟨0, by simp [jf], rfl, rfl, fun j hj => absurd hj (Nat.not_lt_zero _)⟩
    refine (apiSync_yes hj.j.st hj.j.ptr hdl.1 hdl.2.1 hdl.2.2 jnm 0 hat2).mono ?_
    rintro e w' ⟨rfl, fv', hs'⟩
    have hs2 : Stp 82 87 B sb W w' fv1 (jf (dt ++ recB k s) (dt ++ recB k s).size) (decL (decL left)) fv' := hs'
    exact ⟨rfl, fv', hj.trans (hj.j.disk hs2)⟩
  obtain ⟨c0, _⟩ := cell_of (j := 0) (u := .pointer (some ⟨db, 0, none⟩)) h.blk rfl
  have HJ := hide h
  clear hat hdl h1 h2 q0 q1 hd hrs hfl h
  generalize hrb : recB k s = rb at *
  have HRB := hide hrb
  clear hrb
  generalize hdd : dt ++ rb = dd at *
  clear hdd
  generalize decL left = l1 at *
  generalize decL l1 = l2 at *
  unfold jnm at CA CS
  go_enter Tryz.func90, Tryz.ntmps90
  go_wp2_with fail
  go_region_with (first
    | (go_at_call 111; refine (CR.out _).mono ?_; rintro e w2 ⟨rfl, hb2⟩; have HB2 : Hid (Below w.heap.size w w2) := below_drew hb2; have c2 : w2.cell? ⟨jb, 0, none⟩ = some (.pointer (some ⟨db, 0, none⟩)) := (HB2.out.cell (p := ⟨jb, 0, none⟩) (World.block_lt_of_cell? _ _ c0)).trans c0; clear hb2)
    | (go_at_call 84; refine (CA.out _ HB2.out).mono ?_; rintro e w3 ⟨rfl, fv3, hj3, hb3⟩; have HJ3 := hide hj3; have c3 := (cell_of (j := 0) (u := .pointer (some ⟨db, 0, none⟩)) hb3 rfl).1; clear hj3 hb3)
    | (go_at_call 85; refine (CS.out _ _ HJ3.out).mono ?_; rintro e w4 ⟨rfl, fv4, hj4⟩; have HJ4 := hide hj4; clear hj4))
  all_goals (go_wp2; go_ret; exact ⟨rfl, fv4, HJ4.out⟩)
end Go.Proofs.YtkncboinfcnklabGreatDoor

namespace Go.Proofs.YtkncboinfcnklabGreatDoor
open Go.RowKit Go.Deep Go.Proofs.YtkncboinfcnklabGreatDoor.Mth

set_option maxHeartbeats 1000000 in
theorem clone_any (s : ByteArray) (w : World) (hs : s.size ≤ 1048576) :
    Calls Tryz.prog 72 #[.string s] w fun e w' => e = .returned (.string s) ∧ Below w.heap.size w w' := by
  have CC : Hid (Calls Tryz.prog 95 #[.string s] w fun e w' => e = .returned (.string s) ∧ Below w.heap.size w w') := Any.stringslite_Clone Tryz.laysClone s w (by omega)
  go_enter Tryz.func72, Tryz.ntmps72
  go_wp2_with (first | (go_at_call 95; refine CC.out.mono ?_; rintro e w2 ⟨rfl, hb⟩; have HB := hide hb; clear hb))
  go_ret
  exact ⟨rfl, HB.out⟩

def Tab10 (w : World) : Prop := Lib.TabIs Tryz.prog w "internal/strconv.uint64pow10" .u64 Lib.pow10Tab
def itoaB (n : Int) : ByteArray := ⟨(Lib.itoa n).toArray⟩
theorem itoa_any (n : Int) (h0 : 0 ≤ n) (h1 : n ≤ 1000000) (w : World) (ht : Tab10 w) :
    Calls Tryz.prog 94 #[.int .i64 n] w fun e w' => e = .returned (.string (itoaB n)) ∧ Below w.heap.size w w' := by
  refine (Any.strconv_Itoa Tryz.laysItoa n (by omega) (by omega) w ht).mono ?_
  rintro e w' ⟨rfl, k, os, rfl⟩
  have hb := below_regrown (w.drewN k) (w.drewN k).drawn os
  exact ⟨rfl, ⟨hb.os, hb.tape, hb.output, hb.size, hb.block⟩⟩
theorem itoaB_size (n : Int) (h0 : 0 ≤ n) (h1 : n ≤ 1000000) : (itoaB n).size ≤ 21 := by
  have := Lib.itoa_length_le n (by omega) (by omega)
  unfold itoaB
  simp [ByteArray.size]
  exact this

set_option maxHeartbeats 1000000 in
theorem jEntry_any (sq tm : Int) (s : ByteArray) (w : World) (hs : s.size ≤ 1048576) :
    Calls Tryz.prog 91 #[.int .i64 sq, .int .i64 tm, .string s] w fun e w' => e = .returned (.agg #[.int .i64 sq, .int .i64 tm, .string s]) ∧ Below w.heap.size w w' := by
  have hsz : (Tryz.prog.info? 49).map (·.size) = some 3 := by
    have := Tryz.info49
    cases h' : Tryz.prog.info? 49 with
    | none => rw [h'] at this; cases this
    | some i => rw [h'] at this; simp at this; simp [this]
  have HB1 := hide (below_allocG w (Obj.cells #[.int .i64 0, .int .i64 0, .string ⟨#[]⟩] 49))
  have HBK := hide (new_blk w #[.int .i64 0, .int .i64 0, .string ⟨#[]⟩] 49)
  have CC := hide (clone_any s (w.alloc (Obj.cells #[.int .i64 0, .int .i64 0, .string ⟨#[]⟩] 49)) hs)
  obtain ⟨nb, hnb⟩ : ∃ nb, nb = w.heap.size := ⟨_, rfl⟩
  have hnlt : nb < (w.alloc (Obj.cells #[.int .i64 0, .int .i64 0, .string ⟨#[]⟩] 49)).heap.size := by rw [hnb]; simp
  have FIN : Hid (∀ (W : World) (p q r : Value), Below (w.alloc (Obj.cells #[.int .i64 0, .int .i64 0, .string ⟨#[]⟩] 49)).heap.size (w.alloc (Obj.cells #[.int .i64 0, .int .i64 0, .string ⟨#[]⟩] 49)) W → W.heap[nb]? = some (Obj.cells #[.int .i64 0, .int .i64 0, .string ⟨#[]⟩] 49 (0, 0)) ∧ Below w.heap.size w (((W.setCell ⟨nb, 0, none⟩ p).setCell ⟨nb, 1, none⟩ q).setCell ⟨nb, 2, none⟩ r) ∧ (((W.setCell ⟨nb, 0, none⟩ p).setCell ⟨nb, 1, none⟩ q).setCell ⟨nb, 2, none⟩ r).heap[nb]? = some (Obj.cells #[p, q, r] 49 (0, 0))) := by
    intro W p q r hW
    have hBW := HB1.out.trans (hW.mono HB1.out.size)
    have hbk : W.heap[nb]? = some (Obj.cells #[.int .i64 0, .int .i64 0, .string ⟨#[]⟩] 49 (0, 0)) := by
      rw [hW.block nb hnlt, hnb]
      exact HBK.out
    exact ⟨hbk, below_set (below_set (below_set hBW (by omega)) (by omega)) (by omega), setCell_blk (setCell_blk (setCell_blk hbk))⟩
  go_enter Tryz.func91, Tryz.ntmps91
  go_wp2_with fail
  rw [← hnb]
  generalize w.alloc (Obj.cells #[.int .i64 0, .int .i64 0, .string ⟨#[]⟩] 49) = w1 at *
  refine CC.out.mono ?_
  rintro e w2 ⟨rfl, hb2⟩
  obtain ⟨k0, hB2, hbk2⟩ := FIN.out w2 (.int .i64 sq) (.int .i64 tm) (.string s) hb2
  obtain ⟨b0, g0⟩ := cell_of (j := 0) (u := .int .i64 0) k0 rfl
  obtain ⟨b1, g1⟩ := cell_of (j := 1) (u := .int .i64 0) k0 rfl
  obtain ⟨b2, g2⟩ := cell_of (j := 2) (u := .string ⟨#[]⟩) k0 rfl
  have HBB := hide hB2
  have hld := run_loadVar_row (P := Tryz.prog) _ nb 49 49 _ _ _ hbk2 Tryz.underlying49 rfl hsz
  have HLD := hide hld
  clear hld hB2 hbk2 hb2 CC FIN HBK hnb k0
  go_wp2
  (try simp only [Exit.inBlock, Exit.then])
  refine bodyPost_ret (v := .agg #[.int .i64 sq, .int .i64 tm, .string s]) ?_ rfl ⟨rfl, HBB.out⟩
  have hld := HLD.out
  rw [results_cellG rfl]
  simp [asAddr, Result.andThen, hld]
end Go.Proofs.YtkncboinfcnklabGreatDoor

namespace Go.Proofs.YtkncboinfcnklabGreatDoor
open Go.RowKit Go.Deep Go.Proofs.YtkncboinfcnklabGreatDoor.Mth

theorem JAt.setNums {w : World} {B jb db sb : Nat} {fs : List Fl} {left : Int} {fv : Value} {clock count : Nat} (h : JAt w B jb db sb fs left fv clock count) (j : Nat) (x : Nat) (clock' count' : Nat) (hj : (j = 1 ∧ clock' = x ∧ count' = count) ∨ (j = 2 ∧ clock' = clock ∧ count' = x)) :
    JStp w (w.setCell ⟨jb, j, none⟩ (.int .i64 (x : Int))) B jb db sb fv fs left fv clock' count' := by
  have hne : ∀ g, (g = db ∨ ownD sb fv g) → g ≠ jb := by
    rintro g (q | q | q) e
    · have := h.blk
      rw [← e, q, h.ptr] at this
      injection this with this
      injection this with _ this _
      exact absurd this (by decide)
    · have := h.blk
      rw [← e, q, h.st.blk] at this
      injection this with this
      injection this with _ this _
      exact absurd this (by decide)
    · obtain ⟨_, _, D, hD⟩ := own_block h.st.own q
      rw [e, h.blk] at hD
      injection hD with hD
      injection hD with _ hD _
      exact absurd hD (by decide)
  refine ⟨⟨?_, (set_other (hne db (Or.inl rfl))).trans h.ptr, h.st.same (fun g hg => set_other (hne g (Or.inr hg))), h.ge⟩, ⟨rfl, rfl, rfl, by simp, fun k _ hn => set_other (fun q => hn (Or.inl q))⟩, fun _ q => Or.inl q⟩
  rw [setCell_blk h.blk]
  rcases hj with ⟨rfl, rfl, rfl⟩ | ⟨rfl, rfl, rfl⟩ <;> rfl

set_option maxRecDepth 100000 in
set_option maxHeartbeats 4000000 in
theorem jLay_yes {w : World} {B jb db sb : Nat} {dt : ByteArray} {sf : Nat} {left : Int} {fv : Value} {clock count : Nat} (h : JAt w B jb db sb (jf dt sf) left fv clock count) (hB : B ≤ w.heap.size) (h1 : -1 ≤ left) (h2 : left < 9223372036854775808) (q0 : left ≠ 0) (q1 : left ≠ 1)
    (s : ByteArray) (hs : s.size ≤ 60) (hd : dt.size ≤ 1099511627776) (hn : count ≤ 1000000000000) :
    Calls Tryz.prog 66 #[.pointer (some ⟨jb, 0, none⟩), .string s] w fun e w' => e = .returned (.tuple #[.agg #[.int .i64 (count : Int), .int .i64 (clock : Int), .string s], .bool true]) ∧ ∃ fv', JStp w w' B jb db sb fv (jf (dt ++ recB 0 s) (dt ++ recB 0 s).size) (decL (decL left)) fv' clock (count + 1) := by
  have hsz : (Tryz.prog.info? 49).map (·.size) = some 3 := by
    have := Tryz.info49
    cases h' : Tryz.prog.info? 49 with
    | none => rw [h'] at this; cases this
    | some i => rw [h'] at this; simp at this; simp [this]
  obtain ⟨W1, hW1⟩ : ∃ W1, W1 = w.alloc (Obj.cells #[.int .i64 0, .int .i64 0, .string ⟨#[]⟩] 49) := ⟨_, rfl⟩
  have HB1 : Hid (Below w.heap.size w W1) := by rw [hW1]; exact below_allocG w _
  have HBK : Hid (W1.heap[w.heap.size]? = some (Obj.cells #[.int .i64 0, .int .i64 0, .string ⟨#[]⟩] 49 (0, 0))) := by rw [hW1]; exact new_blk w _ _
  have CW := hide (jWrite_yes (h.below HB1.out) (Nat.le_trans hB HB1.out.size) h1 h2 q0 q1 0 (by omega) (by omega) s (by omega) hd)
  have HJ0 := hide h
  have HW1 := hide hW1
  have hjb : jb < w.heap.size := (Array.getElem?_eq_some_iff.1 h.blk).1
  clear h hd h1 h2 q0 q1 hW1
  generalize dt ++ recB 0 s = dd at *
  generalize decL (decL left) = l2 at *
  go_enter Tryz.func66, Tryz.ntmps66
  go_wp2_with fail
  rw [← HW1.out]
  refine CW.out.mono ?_
  rintro e w2 ⟨rfl, fv2, hj2⟩
  obtain ⟨c1, _⟩ := cell_of (j := 1) (u := .int .i64 (clock : Int)) hj2.j.blk rfl
  obtain ⟨c2, _⟩ := cell_of (j := 2) (u := .int .i64 (count : Int)) hj2.j.blk rfl
  have HJ2 := hide (JStp.pre HB1.out hj2)
  have HBK2 : Hid (w2.heap[w.heap.size]? = some (Obj.cells #[.int .i64 0, .int .i64 0, .string ⟨#[]⟩] 49 (0, 0))) := by
    refine (hj2.tch.block w.heap.size (Array.getElem?_eq_some_iff.1 HBK.out).1 (fun q => ?_)).trans HBK.out
    have := (HJ0.out.ownLt q).1
    omega
  have CE : Hid (∀ W, Calls Tryz.prog 91 #[.int .i64 (count : Int), .int .i64 (clock : Int), .string s] W fun e w' => e = .returned (.agg #[.int .i64 (count : Int), .int .i64 (clock : Int), .string s]) ∧ Below W.heap.size W w') := fun W => jEntry_any _ _ s W (by omega)
  clear hj2 CW HBK HW1
  have HZ := hide (new_blk w2 #[.int .i64 0, .int .i64 0, .string ⟨#[]⟩] 49)
  have HBZ := hide (below_allocG w2 (Obj.cells #[.int .i64 0, .int .i64 0, .string ⟨#[]⟩] 49))
  have hz1 := (HBZ.out.cell (p := ⟨jb, 1, none⟩) (World.block_lt_of_cell? _ _ c1)).trans c1
  have hz2 := (HBZ.out.cell (p := ⟨jb, 2, none⟩) (World.block_lt_of_cell? _ _ c2)).trans c2
  go_wp2_with fail
  go_cut [6] from 12 (fun p wx => ∃ nb, p = .pointer (some ⟨nb, 0, none⟩) ∧ Below w2.heap.size w2 wx ∧ w2.heap.size ≤ nb ∧ wx.heap[nb]? = some (Obj.cells #[.int .i64 (count : Int), .int .i64 (clock : Int), .string s] 49 (0, 0)))
  case first =>
    go_region_with (first
      | (go_at_call 91; refine (CE.out _).mono ?_; rintro e w3 ⟨rfl, hb3⟩; have HB3 : Hid (Below w2.heap.size w2 w3) := below_drew1 hb3; have HFIN : Hid (Below w2.heap.size w2 (w3.alloc (Obj.cells #[.int .i64 (count : Int), .int .i64 (clock : Int), .string s] 49)) ∧ w2.heap.size ≤ w3.heap.size ∧ (w3.alloc (Obj.cells #[.int .i64 (count : Int), .int .i64 (clock : Int), .string s] 49)).heap[w3.heap.size]? = some (Obj.cells #[.int .i64 (count : Int), .int .i64 (clock : Int), .string s] 49 (0, 0))) := ⟨HB3.out.trans ((below_allocG w3 _).mono HB3.out.size), HB3.out.size, new_blk w3 _ _⟩; clear hb3)
      | (go_at_call 91; refine (CE.out _).mono ?_; rintro e w3 ⟨rfl, hb3⟩; have hb4 : Below (w2.alloc (Obj.cells #[.int .i64 0, .int .i64 0, .string ⟨#[]⟩] 49)).heap.size (w2.alloc (Obj.cells #[.int .i64 0, .int .i64 0, .string ⟨#[]⟩] 49)) w3 := below_drew1 hb3; have hk4 := (hb4.block w2.heap.size (by simp)).trans HZ.out; obtain ⟨z0, y0⟩ := cell_of (j := 0) (u := .int .i64 0) hk4 rfl; obtain ⟨z1, y1⟩ := cell_of (j := 1) (u := .int .i64 0) hk4 rfl; obtain ⟨z2, y2⟩ := cell_of (j := 2) (u := .string ⟨#[]⟩) hk4 rfl; have HFIN : Hid (Below w2.heap.size w2 (((w3.setCell ⟨w2.heap.size, 0, none⟩ (.int .i64 (count : Int))).setCell ⟨w2.heap.size, 1, none⟩ (.int .i64 (clock : Int))).setCell ⟨w2.heap.size, 2, none⟩ (.string s)) ∧ w2.heap.size ≤ w2.heap.size ∧ (((w3.setCell ⟨w2.heap.size, 0, none⟩ (.int .i64 (count : Int))).setCell ⟨w2.heap.size, 1, none⟩ (.int .i64 (clock : Int))).setCell ⟨w2.heap.size, 2, none⟩ (.string s)).heap[w2.heap.size]? = some (Obj.cells #[.int .i64 (count : Int), .int .i64 (clock : Int), .string s] 49 (0, 0))) := ⟨below_set (below_set (below_set (HBZ.out.trans (hb4.mono HBZ.out.size)) (Nat.le_refl _)) (Nat.le_refl _)) (Nat.le_refl _), Nat.le_refl _, setCell_blk (setCell_blk (setCell_blk hk4))⟩; clear hb3 hb4 hk4))
    all_goals (go_wp2_with fail; go_meet; exact ⟨_, rfl, HFIN.out.1, HFIN.out.2.1, HFIN.out.2.2⟩)
  case rest =>
    obtain ⟨nb, rfl, hbx, hnb, hkx⟩ := hcut
    have hj3 := HJ2.out.below hbx
    have hlt2 : w.heap.size < w2.heap.size := (Array.getElem?_eq_some_iff.1 HBK2.out).1
    have hkw : wc.heap[w.heap.size]? = some (Obj.cells #[.int .i64 0, .int .i64 0, .string ⟨#[]⟩] 49 (0, 0)) := (hbx.block _ hlt2).trans HBK2.out
    obtain ⟨d2, f2⟩ := cell_of (j := 2) (u := .int .i64 (count : Int)) hj3.j.blk rfl
    have hjn : nb ≠ jb := fun q => by
      have := hj3.j.blk
      rw [← q, hkx] at this
      injection this with this
      injection this with _ this _
      exact absurd this (by decide)
    have HJ5 := hide (hj3.trans (hj3.j.setNums 2 (count + 1) clock (count + 1) (Or.inr ⟨rfl, rfl, rfl⟩)))
    obtain ⟨W5, hW5⟩ : ∃ W5, W5 = wc.setCell ⟨jb, 2, none⟩ (.int .i64 ((count : Int) + 1)) := ⟨_, rfl⟩
    have HJ6 : Hid (JStp w W5 B jb db sb fv (jf dd dd.size) l2 fv2 clock (count + 1)) := by rw [hW5]; exact HJ5.out
    have hk5 : W5.heap[nb]? = some (Obj.cells #[.int .i64 (count : Int), .int .i64 (clock : Int), .string s] 49 (0, 0)) := by rw [hW5, set_other hjn]; exact hkx
    have hkw5 : W5.heap[w.heap.size]? = some (Obj.cells #[.int .i64 0, .int .i64 0, .string ⟨#[]⟩] 49 (0, 0)) := by rw [hW5, set_other (by omega)]; exact hkw
    clear HJ5 hj3 hbx hkx hkw HJ2 HBK2 hz1 hz2 c1 c2 CE HZ HBZ
    obtain ⟨e0', _⟩ := cell_of (j := 0) (u := .int .i64 (count : Int)) hk5 rfl
    obtain ⟨e1, _⟩ := cell_of (j := 1) (u := .int .i64 (clock : Int)) hk5 rfl
    obtain ⟨e2, _⟩ := cell_of (j := 2) (u := .string s) hk5 rfl
    obtain ⟨z0, y0⟩ := cell_of (j := 0) (u := .int .i64 0) hkw5 rfl
    obtain ⟨z1, y1⟩ := cell_of (j := 1) (u := .int .i64 0) hkw5 rfl
    obtain ⟨z2, y2⟩ := cell_of (j := 2) (u := .string ⟨#[]⟩) hkw5 rfl
    have hfin : (((W5.setCell ⟨w.heap.size, 0, none⟩ (.int .i64 (count : Int))).setCell ⟨w.heap.size, 1, none⟩ (.int .i64 (clock : Int))).setCell ⟨w.heap.size, 2, none⟩ (.string s)).heap[w.heap.size]? = some (Obj.cells #[.int .i64 (count : Int), .int .i64 (clock : Int), .string s] 49 (0, 0)) := setCell_blk (setCell_blk (setCell_blk hkw5))
    have HJ7 : Hid (JStp w (((W5.setCell ⟨w.heap.size, 0, none⟩ (.int .i64 (count : Int))).setCell ⟨w.heap.size, 1, none⟩ (.int .i64 (clock : Int))).setCell ⟨w.heap.size, 2, none⟩ (.string s)) B jb db sb fv (jf dd dd.size) l2 fv2 clock (count + 1)) := by
      have hoth : ∀ g, g ≠ w.heap.size → (((W5.setCell ⟨w.heap.size, 0, none⟩ (.int .i64 (count : Int))).setCell ⟨w.heap.size, 1, none⟩ (.int .i64 (clock : Int))).setCell ⟨w.heap.size, 2, none⟩ (.string s)).heap[g]? = W5.heap[g]? := fun g hg => by rw [set_other hg, set_other hg, set_other hg]
      refine ⟨HJ6.out.j.same (fun g hg => hoth g (fun q => ?_)), ⟨HJ6.out.tch.os, HJ6.out.tch.tape, HJ6.out.tch.output, by have := HJ6.out.tch.size; simpa using this, fun k hk hn => (hoth k (by omega)).trans (HJ6.out.tch.block k hk hn)⟩, HJ6.out.new⟩
      subst q
      rcases hg with q | q | q | q
      · omega
      · have := HJ6.out.j.ptr
        rw [← q, Ptr, hkw5] at this
        injection this with this
        injection this with _ this _
        exact absurd this (by decide)
      · have := HJ6.out.j.st.blk
        rw [← q, hkw5] at this
        injection this with this
        injection this with _ this _
        exact absurd this (by decide)
      · obtain ⟨_, _, D, hD⟩ := own_block HJ6.out.j.st.own q
        rw [hkw5] at hD
        injection hD with hD
        injection hD with _ hD _
        exact absurd hD (by decide)
    have hld := run_loadVar_row (P := Tryz.prog) _ w.heap.size 49 49 _ _ _ hfin Tryz.underlying49 rfl hsz
    have HLD := hide hld
    have HW5 := hide hW5
    clear hld hfin hW5
    go_upto_region 5 with fail
    rw [← HW5.out]
    go_wp2
    (try simp only [Exit.inBlock, Exit.then])
    refine bodyPost_ret (v := .tuple #[.agg #[.int .i64 (count : Int), .int .i64 (clock : Int), .string s], .bool true]) ?_ rfl ⟨rfl, fv2, HJ7.out⟩
    have hld := HLD.out
    rw [results_cell_tmp rfl]
    simp [asAddr, Result.andThen, hld]
end Go.Proofs.YtkncboinfcnklabGreatDoor
