import Derived.Test.YtkncboinfcnklaaGreatDoorDa
import Derived.BigRegion
import Derived.Deep.CutRange
namespace Go.Proofs.YtkncboinfcnklaaGreatDoor
open Go.RowKit Go.Deep Go.Proofs.YtkncboinfcnklaaGreatDoor.Mth

set_option maxRecDepth 100000 in
set_option maxHeartbeats 4000000 in
theorem apiSync_yes {w : World} {B b d : Nat} {fs : List Fl} {left : Int} {fv : Value} (h : St 100 109 w B b fs left fv) (hp : Ptr 102 w d b) (h1 : -1 ≤ left) (h2 : left < 9223372036854775808) (q : left ≠ 0) (x : ByteArray) (r : Int) (hr : At fs x r) :
    Calls Tryz.prog 33 #[.pointer (some ⟨d, 0, none⟩), .string x] w fun e w' => e = .returned (.bool true) ∧ ∃ fv', Stp 100 109 B b w w' fv (aSync fs r) (decL left) fv' := by
  have CS := hide (apiStep_any h h1 h2)
  rw [decide_eq_true q] at CS
  obtain ⟨p0, _⟩ := cell_of (j := 0) (u := .pointer (some ⟨b, 0, none⟩)) hp rfl
  have HR := hide hr
  have HP := hide hp
  have HS := hide h
  generalize decL left = l1 at *
  generalize hfs : aSync fs r = fs' at *
  have HFS := hide hfs
  clear h h1 h2 q hfs hr hp
  go_enter Tryz.func33, Tryz.ntmps33
  go_wp2_with fail
  refine CS.out.mono ?_
  rintro e w1 ⟨rfl, hs⟩
  have HT := hide hs
  have HP1 := hide (HP.out.keep HS.out hs.tch (by decide) (by decide))
  have CF := hide (find_any hs.st x)
  obtain ⟨p1, _⟩ := cell_of (j := 0) (u := .pointer (some ⟨b, 0, none⟩)) HP1.out rfl
  clear hs CS p0 HP HS
  go_wp2_with fail
  refine CF.out.mono ?_
  rintro e w2 ⟨r', rfl, hr, rfl⟩
  have hrr := at_one HR.out hr
  subst hrr
  clear CF
  obtain ⟨a, c, rfl, hc, hm⟩ := own_slice HT.out.st.own
  unfold maxLen at hm
  obtain ⟨c0, f0⟩ := cell_of (j := 0) (u := .slice a fs.length c) HT.out.st.blk rfl
  rcases hr with ⟨rfl, _⟩ | ⟨i, hi, rfl, _, _⟩
  · have HFR : Hid (fs' = fs) := HFS.out.symm
    go_wp2
    go_ret
    exact ⟨rfl, _, by rw [HFR.out]; exact HT.out⟩
  · have HFR : Hid (fs' = setS fs i (fs.getD i fl0).data.size) := by
      show _ = _
      rw [← HFS.out]
      unfold aSync
      rw [if_neg (by omega), Int.toNat_natCast]
    have HTD := hide (HT.out.below (drewB w2))
    have hown := HTD.out.st.own
    obtain ⟨g, rfl⟩ := own_some hown (by omega)
    obtain ⟨_, e3, _⟩ := own_fl (k := i) hown rfl hi
    obtain ⟨⟨y2, e4⟩, hfr⟩ := own_at (i := i * 3 + 2) hown (by omega)
    obtain ⟨q1, _⟩ := cell_of (j := 0) (u := .pointer (some ⟨b, 0, none⟩)) (HP1.out.below (drewB w2)) rfl
    obtain ⟨q0, _⟩ := cell_of (j := 0) (u := .slice (some ⟨g, 0, none⟩) fs.length c) HTD.out.st.blk rfl
    generalize hdt : (fs.getD i fl0).data = dt at *
    have ST2 := hide (HTD.out.st.store (i := i * 3 + 2) (y := .int .i64 (dt.size : Int)) (fs' := setS fs i dt.size) (by decide) rfl (by omega) (by simp [setS]) (fC_set2 dt.size hi))
    clear hdt hown
    generalize hn : fs.length = n at *
    have HN := hide hn
    clear hn
    go_wp2_with fail
    go_region
    all_goals (go_wp2; go_ret; exact ⟨rfl, _, by rw [HFR.out]; first | exact HTD.out.trans ST2.out | (rw [HN.out]; exact HTD.out.trans ST2.out)⟩)
end Go.Proofs.YtkncboinfcnklaaGreatDoor

namespace Go.Proofs.YtkncboinfcnklaaGreatDoor
open Go.RowKit Go.Deep Go.Proofs.YtkncboinfcnklaaGreatDoor.Mth

set_option maxRecDepth 100000 in
set_option maxHeartbeats 4000000 in
theorem apiRename_same {w : World} {B b d : Nat} {fs : List Fl} {left : Int} {fv : Value} (h : St 100 109 w B b fs left fv) (hp : Ptr 102 w d b) (h1 : -1 ≤ left) (h2 : left < 9223372036854775808) (q : left ≠ 0) (x y : ByteArray) (r : Int) (hr : At fs x r) (hno : r < 0 ∨ x = y) :
    Calls Tryz.prog 35 #[.pointer (some ⟨d, 0, none⟩), .string x, .string y] w fun e w' => e = .returned (.bool true) ∧ Stp 100 109 B b w w' fv fs (decL left) fv := by
  have CS := hide (apiStep_any h h1 h2)
  rw [decide_eq_true q] at CS
  obtain ⟨p0, _⟩ := cell_of (j := 0) (u := .pointer (some ⟨b, 0, none⟩)) hp rfl
  have HR := hide hr
  have HP := hide hp
  have HS := hide h
  have HNO := hide hno
  generalize decL left = l1 at *
  clear h h1 h2 q hr hp hno
  go_enter Tryz.func35, Tryz.ntmps35
  go_wp2_with fail
  refine CS.out.mono ?_
  rintro e w1 ⟨rfl, hs⟩
  have HT := hide hs
  have HP1 := hide (HP.out.keep HS.out hs.tch (by decide) (by decide))
  have CF := hide (find_any hs.st x)
  obtain ⟨p1, _⟩ := cell_of (j := 0) (u := .pointer (some ⟨b, 0, none⟩)) HP1.out rfl
  clear hs CS p0 HP HS
  go_wp2_with fail
  refine CF.out.mono ?_
  rintro e w2 ⟨r', rfl, hr, rfl⟩
  have hrr := at_one HR.out hr
  subst hrr
  clear CF
  rcases hr with ⟨rfl, _⟩ | ⟨i, hi, rfl, _, _⟩
  · go_wp2
    go_ret
    exact ⟨rfl, HT.out⟩
  · have hxy : x = y := HNO.out.resolve_left (by omega)
    subst hxy
    go_wp2
    go_ret
    exact ⟨rfl, HT.out⟩

theorem curF_append0 {e : TypeId} {w0 w w2 : World} {v v2 : Value} {l : List Fl} {f : Fl} (h : CurF e w0 w v l) (h2 : w2.ownsRow w0.heap.size e 3 v2 (l.length + 1) (l.flatMap fC ++ fC f)) (hg : w.grownBy w2 v.ownBlock) : CurF e w0 w2 v2 (l ++ [f]) := by
  refine ⟨?_, by simpa [List.flatMap_append] using h2⟩
  refine h.1.grown hg h.1.size ?_
  intro k hk
  exact (h.2.lt k hk).1

theorem cellA {w : World} {a : Addr} {v : Value} {o : Obj} (h : w.cell? a = some v) : (w.alloc o).cell? a = some v := ((below_alloc w o).cell (p := a) (World.block_lt_of_cell? _ _ h)).trans h

theorem add_lt (w : World) (o : Obj) (j : Nat) : ((⟨w.heap.size, 0, none⟩ : Addr).add j).block < (w.drew.alloc o).heap.size := by
  rw [show (⟨w.heap.size, 0, none⟩ : Addr).add j = ⟨w.heap.size, j, none⟩ from by unfold Addr.add; split <;> simp_all]
  simp

theorem drewNB (w : World) (n : Nat) : Below w.heap.size w (w.drewN n) := ⟨rfl, rfl, rfl, Nat.le_refl _, fun _ _ => rfl⟩

theorem kept_nb {w3 w4 : World} {B b nb : Nat} {fs fs' : List Fl} {l1 : Int} {fv v4 : Value} {C : Array Value} (hc : CurF 109 w3.drew w4 v4 fs') (hlt : nb < w3.heap.size) (hk : w3.heap[nb]? = some (Obj.cells C 109 (0, 0))) (hs : St 100 109 w3 B b fs l1 fv) : (w4.setCell ⟨b, 0, none⟩ v4).heap[nb]? = some (Obj.cells C 109 (0, 0)) := by
  have hne : nb ≠ b := by
    intro q
    subst q
    have := hs.blk
    rw [hk] at this
    injection this with this
    injection this with _ this _
    exact absurd this (by decide)
  rw [set_other hne, (hc.pre (drewB w3)).1.block nb hlt]
  exact hk
theorem kept_d {w3 w4 : World} {B b d : Nat} {fs fs' : List Fl} {l1 : Int} {fv v4 : Value} (hc : CurF 109 w3.drew w4 v4 fs') (hp : Ptr 102 w3 d b) (hs : St 100 109 w3 B b fs l1 fv) : Ptr 102 (w4.setCell ⟨b, 0, none⟩ v4) d b := by
  have hne : d ≠ b := by
    intro q
    subst q
    have := hs.blk
    rw [hp] at this
    injection this with this
    injection this with _ this _
    exact absurd this (by decide)
  show _ = _
  rw [set_other hne]
  exact hp.below (hc.pre (drewB w3)).1

set_option maxRecDepth 100000 in
set_option maxHeartbeats 8000000 in
theorem apiRename_yes {w : World} {B b d : Nat} {fs : List Fl} {left : Int} {fv : Value} (h : St 100 109 w B b fs left fv) (hp : Ptr 102 w d b) (hB : B ≤ w.heap.size) (h1 : -1 ≤ left) (h2 : left < 9223372036854775808) (q : left ≠ 0) (hl : fs.length ≤ 4194304) (x y : ByteArray) (i : Nat) (hr : At fs x (i : Int)) (hi : i < fs.length) (hxy : x ≠ y) :
    Calls Tryz.prog 35 #[.pointer (some ⟨d, 0, none⟩), .string x, .string y] w fun e w' => e = .returned (.bool true) ∧ ∃ fv', Stp 100 109 B b w w' fv (wo y (wo x fs) ++ [⟨y, (fs.getD i fl0).data, (fs.getD i fl0).safe⟩]) (decL left) fv' := by
  obtain ⟨i0, hi0, hz0, hz1, hz2⟩ := info_parts Tryz.info109
  have CS := hide (apiStep_any h h1 h2)
  rw [decide_eq_true q] at CS
  obtain ⟨p0, _⟩ := cell_of (j := 0) (u := .pointer (some ⟨b, 0, none⟩)) hp rfl
  have HR := hide hr
  have HP := hide hp
  have HS := hide h
  have hxyb := eqS_false (fun q => hxy q.symm : y ≠ x)
  have hxyc := eqS_false hxy
  generalize decL left = l1 at *
  clear h h1 h2 q hr hp
  go_enter Tryz.func35, Tryz.ntmps35
  go_wp2_with fail
  refine CS.out.mono ?_
  rintro e w1 ⟨rfl, hs⟩
  have HT := hide hs
  have HP1 := hide (HP.out.keep HS.out hs.tch (by decide) (by decide))
  have CF := hide (find_any hs.st x)
  obtain ⟨p1, _⟩ := cell_of (j := 0) (u := .pointer (some ⟨b, 0, none⟩)) HP1.out rfl
  clear hs CS p0 HP HS
  go_wp2_with fail
  refine CF.out.mono ?_
  rintro e w2 ⟨r', rfl, hr, rfl⟩
  have hrr := at_one HR.out hr
  subst hrr
  clear CF hr HR
  obtain ⟨a, c, rfl, hc, hm⟩ := own_slice HT.out.st.own
  unfold maxLen at hm
  obtain ⟨c0, f0⟩ := cell_of (j := 0) (u := .slice a fs.length c) HT.out.st.blk rfl
  have hown := HT.out.st.own
  obtain ⟨g, rfl⟩ := own_some hown (by omega)
  obtain ⟨e2, e3, e4⟩ := own_fl (k := i) hown rfl hi
  generalize (fs.getD i fl0).name = nm at *
  generalize hdt : (fs.getD i fl0).data = dt at *
  generalize hsf : (fs.getD i fl0).safe = sf at *
  have HDT := hide hdt
  have HSF := hide hsf
  clear hdt hsf
  have HBK := hide (new_blk w2 #[.string y, .string dt, .int .i64 (sf : Int)] 109)
  have HB3 := hide (below_alloc w2 (Obj.cells #[.string y, .string dt, .int .i64 (sf : Int)] 109))
  have hlt3 : w2.heap.size < (w2.alloc (Obj.cells #[.string y, .string dt, .int .i64 (sf : Int)] 109)).heap.size := by simp
  have hsz2 := HT.out.tch.size
  clear hown
  go_wp2_with fail
  have HT3 := hide (HT.out.below HB3.out)
  have HP3 := hide (HP1.out.below HB3.out)
  have hnb : w.heap.size ≤ w2.heap.size := hsz2
  generalize w2.alloc (Obj.cells #[.string y, .string dt, .int .i64 (sf : Int)] 109) = w3 at *
  generalize w2.heap.size = nb at *
  have CW := hide (apiWithout_any (HT3.out.st.below (drewB w3)) x hl)
  obtain ⟨p3, _⟩ := cell_of (j := 0) (u := .pointer (some ⟨b, 0, none⟩)) HP3.out rfl
  clear p1 c0 f0 e2 e3 e4 HT HP1 HB3
  obtain ⟨FV, hFV⟩ : ∃ FV, FV = (Value.slice (some ⟨g, 0, none⟩) fs.length c) := ⟨_, rfl⟩
  rw [← hFV] at HT3
  have HFV := hide hFV
  clear hFV
  go_cut [] from 40 (fun wx => ∃ v2, Stp 100 109 B b w wx FV (wo x fs) l1 v2 ∧ Ptr 102 wx d b ∧ wx.heap[nb]? = some (Obj.cells #[.string y, .string dt, .int .i64 (sf : Int)] 109 (0, 0)))
  case first =>
    go_region_with (go_at_call 80; refine CW.out.mono ?_; rintro e w4 ⟨v4, rfl, hc4⟩; obtain ⟨a4, c4, rfl, _, _⟩ := own_slice hc4.2; obtain ⟨ht4, kb, kf, kd⟩ := freshed HT3.out HP3.out hB hc4; have HT4 := hide ht4; have HK4 : Hid ((w4.setCell ⟨b, 0, none⟩ (.slice a4 (wo x fs).length c4)).heap[nb]? = some (Obj.cells #[.string y, .string dt, .int .i64 (sf : Int)] 109 (0, 0))) := kept_nb hc4 hlt3 HBK.out HT3.out.st; have HP4 : Hid (Ptr 102 (w4.setCell ⟨b, 0, none⟩ (.slice a4 (wo x fs).length c4)) d b) := kept_d hc4 HP3.out HT3.out.st; clear ht4 hc4)
    all_goals (go_wp2_with fail; go_meet; exact ⟨_, HT4.out, HP4.out, HK4.out⟩)
  case rest =>
    obtain ⟨v2, hs2, hp2, hk2⟩ := hcut
    have HT5 := hide hs2
    have HP5 := hide hp2
    have HK5 := hide hk2
    have hsz5 := hs2.tch.size
    have CW2 := hide (fun W (hW : Below wc.heap.size wc W) => apiWithout_any (hs2.st.below hW) y (Nat.le_trans (wo_len _ _) hl))
    obtain ⟨p5, _⟩ := cell_of (j := 0) (u := .pointer (some ⟨b, 0, none⟩)) hp2 rfl
    obtain ⟨m0, _⟩ := cell_of (j := 0) (u := .string y) hk2 rfl
    obtain ⟨m1, _⟩ := cell_of (j := 1) (u := .string dt) hk2 rfl
    obtain ⟨m2, _⟩ := cell_of (j := 2) (u := .int .i64 (sf : Int)) hk2 rfl
    have HNE : Hid (nb ≠ b) := by
      intro q
      subst q
      have := HT5.out.st.blk
      rw [HK5.out] at this
      injection this with this
      injection this with _ this _
      exact absurd this (by decide)
    have HDE : Hid (d ≠ b) := by
      intro q
      subst q
      have := HT5.out.st.blk
      rw [HP5.out] at this
      injection this with this
      injection this with _ this _
      exact absurd this (by decide)
    have hml : (wo y (wo x fs)).length ≤ 4194304 := Nat.le_trans (wo_len _ _) (Nat.le_trans (wo_len _ _) hl)
    clear hs2 hp2 hk2 CW HT3 HP3 HBK p3 hlt3
    generalize hml2 : wo y (wo x fs) = L at *
    have HL := hide hml2
    clear hml2
    go_wp2_with fail
    go_region_held3 (fun w' => w'.cell? ⟨d, 0, none⟩ = some (.pointer (some ⟨b, 0, none⟩)) ∧ w'.cell? ⟨nb, 0, none⟩ = some (.string y) ∧ w'.cell? ⟨nb, 1, none⟩ = some (.string dt) ∧ w'.cell? ⟨nb, 2, none⟩ = some (.int .i64 (sf : Int))) (first | exact ⟨p5, m0, m1, m2⟩ | exact ⟨cellA p5, cellA m0, cellA m1, cellA m2⟩ | exact ⟨n0, n1, n2, n3⟩ | exact ⟨cellA n0, cellA n1, cellA n2, cellA n3⟩ | exact ⟨o0, o1, o2, o3⟩ | exact ⟨r0, r1, r2, r3⟩)
      (first
        | (go_at_call 80; refine (CW2.out _ (drewB wc)).mono ?_; rintro e w6 ⟨v6, rfl, hc6⟩; have hc7 := hc6.pre (drewB wc); have HC7 := hide hc7; obtain ⟨n0, _⟩ := cell_of (j := 0) (u := .pointer (some ⟨b, 0, none⟩)) (HP5.out.below hc7.1) rfl; have k7 := (hc7.1.block nb (Array.getElem?_eq_some_iff.1 HK5.out).1).trans HK5.out; obtain ⟨n1, _⟩ := cell_of (j := 0) (u := .string y) k7 rfl; obtain ⟨n2, _⟩ := cell_of (j := 1) (u := .string dt) k7 rfl; obtain ⟨n3, _⟩ := cell_of (j := 2) (u := .int .i64 (sf : Int)) k7 rfl; clear hc6 hc7 k7)
        | (go_at_call 80; refine (CW2.out _ ((drewB wc).trans ((below_alloc wc.drew (Obj.cells #[.string y, .string dt, .int .i64 (sf : Int)] 109)).mono (Nat.le_refl _)))).mono ?_; rintro e w6 ⟨v6, rfl, hc6⟩; have hc7 := hc6.pre ((drewB wc).trans ((below_alloc wc.drew (Obj.cells #[.string y, .string dt, .int .i64 (sf : Int)] 109)).mono (Nat.le_refl _))); have HC7 := hide hc7; obtain ⟨n0, _⟩ := cell_of (j := 0) (u := .pointer (some ⟨b, 0, none⟩)) (HP5.out.below hc7.1) rfl; have k7 := (hc7.1.block nb (Array.getElem?_eq_some_iff.1 HK5.out).1).trans HK5.out; obtain ⟨n1, _⟩ := cell_of (j := 0) (u := .string y) k7 rfl; obtain ⟨n2, _⟩ := cell_of (j := 1) (u := .string dt) k7 rfl; obtain ⟨n3, _⟩ := cell_of (j := 2) (u := .int .i64 (sf : Int)) k7 rfl; have HNW := hide (fun j u hj => ((hc6.1.cell (p := (⟨wc.heap.size, 0, none⟩ : Addr).add j) (add_lt wc _ j)).trans (cells_new wc.drew #[.string y, .string dt, .int .i64 (sf : Int)] 109 _ rfl j u hj))); clear hc6 hc7 k7)
        | (refine step_own _ rfl _ _ 98 rfl wc.heap.size 109 i0 (.agg #[.string ⟨#[]⟩, .string ⟨#[]⟩, .int .i64 0]) 3 40 Tryz.underlying98 hi0 hz0 hz1 hz2 rfl (by decide) _ _ _ rfl (HC7.out.2.alloc _) ⟨w6.heap.size, 0, none⟩ 1 1 [.string y, .string dt, .int .i64 (sf : Int)] rfl rfl (cells_new _ _ _ _ rfl) (by intro u hu; simp at hu; rcases hu with rfl | rfl | rfl <;> rfl) (by unfold maxLen; omega) (by omega) (by have := HC7.out.1.size; simp; omega) ?_; intro v8 w8 hown8 hgrow8; obtain ⟨a8, c8, rfl, _, _⟩ := own_slice hown8; have HC8 := hide (curF_append (f := ⟨y, dt, sf⟩) HC7.out hown8 hgrow8); have HT8 := hide (HT5.out.trans (HT5.out.st.setFresh (by decide) (by omega) HC8.out)); obtain ⟨kb8, kf8⟩ := cell_of (j := 0) (u := v2) (HT5.out.st.below HC8.out.1).blk rfl; obtain ⟨o0, _⟩ := cell_of (j := 0) (u := .pointer (some ⟨b, 0, none⟩)) (HP5.out.below HC8.out.1) rfl; have k8 := (HC8.out.1.block nb (Array.getElem?_eq_some_iff.1 HK5.out).1).trans HK5.out; obtain ⟨o1, _⟩ := cell_of (j := 0) (u := .string y) k8 rfl; obtain ⟨o2, _⟩ := cell_of (j := 1) (u := .string dt) k8 rfl; obtain ⟨o3, _⟩ := cell_of (j := 2) (u := .int .i64 (sf : Int)) k8 rfl; have k9 := (set_other (w := w8) (nb := b) (o := 0) (u := .slice a8 (L.length + 1) c8) HNE.out).trans k8; obtain ⟨r0, _⟩ := cell_of (j := 0) (u := .pointer (some ⟨b, 0, none⟩)) ((set_other (w := w8) (nb := b) (o := 0) (u := .slice a8 (L.length + 1) c8) HDE.out).trans (HP5.out.below HC8.out.1)) rfl; obtain ⟨r1, _⟩ := cell_of (j := 0) (u := .string y) k9 rfl; obtain ⟨r2, _⟩ := cell_of (j := 1) (u := .string dt) k9 rfl; obtain ⟨r3, _⟩ := cell_of (j := 2) (u := .int .i64 (sf : Int)) k9 rfl; clear hown8 hgrow8 k8 k9)
        | (refine step_own _ rfl _ _ 98 rfl wc.heap.size 109 i0 (.agg #[.string ⟨#[]⟩, .string ⟨#[]⟩, .int .i64 0]) 3 40 Tryz.underlying98 hi0 hz0 hz1 hz2 rfl (by decide) _ _ _ rfl HC7.out.2 ⟨wc.heap.size, 0, none⟩ 1 1 [.string y, .string dt, .int .i64 (sf : Int)] rfl rfl HNW.out (by intro u hu; simp at hu; rcases hu with rfl | rfl | rfl <;> rfl) (by unfold maxLen; omega) (by omega) (by have := HC7.out.1.size; simp; omega) ?_; intro v8 w8 hown8 hgrow8; obtain ⟨a8, c8, rfl, _, _⟩ := own_slice hown8; have HC8 := hide (curF_append0 (f := ⟨y, dt, sf⟩) HC7.out hown8 hgrow8); have HT8 := hide (HT5.out.trans (HT5.out.st.setFresh (by decide) (by omega) HC8.out)); obtain ⟨kb8, kf8⟩ := cell_of (j := 0) (u := v2) (HT5.out.st.below HC8.out.1).blk rfl; obtain ⟨o0, _⟩ := cell_of (j := 0) (u := .pointer (some ⟨b, 0, none⟩)) (HP5.out.below HC8.out.1) rfl; have k8 := (HC8.out.1.block nb (Array.getElem?_eq_some_iff.1 HK5.out).1).trans HK5.out; obtain ⟨o1, _⟩ := cell_of (j := 0) (u := .string y) k8 rfl; obtain ⟨o2, _⟩ := cell_of (j := 1) (u := .string dt) k8 rfl; obtain ⟨o3, _⟩ := cell_of (j := 2) (u := .int .i64 (sf : Int)) k8 rfl; have k9 := (set_other (w := w8) (nb := b) (o := 0) (u := .slice a8 (L.length + 1) c8) HNE.out).trans k8; obtain ⟨r0, _⟩ := cell_of (j := 0) (u := .pointer (some ⟨b, 0, none⟩)) ((set_other (w := w8) (nb := b) (o := 0) (u := .slice a8 (L.length + 1) c8) HDE.out).trans (HP5.out.below HC8.out.1)) rfl; obtain ⟨r1, _⟩ := cell_of (j := 0) (u := .string y) k9 rfl; obtain ⟨r2, _⟩ := cell_of (j := 1) (u := .string dt) k9 rfl; obtain ⟨r3, _⟩ := cell_of (j := 2) (u := .int .i64 (sf : Int)) k9 rfl; clear hown8 hgrow8 k8 k9))
    all_goals (go_wp2; go_ret; exact ⟨rfl, _, by rw [HL.out, HDT.out, HSF.out, ← HFV.out]; exact HT8.out⟩)
end Go.Proofs.YtkncboinfcnklaaGreatDoor

namespace Go.Proofs.YtkncboinfcnklaaGreatDoor
open Go.RowKit Go.Deep Go.Proofs.YtkncboinfcnklaaGreatDoor.Mth

/-! ### what a crash leaves of a file -/
def crN (keep : Int) (f : Fl) : Nat := if keep < 0 then f.safe else if keep < (f.data.size : Int) - f.safe then f.safe + keep.toNat else f.data.size
def cut (s : ByteArray) (n : Nat) : ByteArray := s.extract 0 n
def cr (keep : Int) (f : Fl) : Fl := ⟨f.name, cut f.data (crN keep f), crN keep f⟩
theorem crN_le {keep : Int} {f : Fl} (h : f.safe ≤ f.data.size) : crN keep f ≤ f.data.size := by
  unfold crN
  split
  · exact h
  · split
    · omega
    · exact Nat.le_refl _
theorem crN_api {keep : Int} {f : Fl} (h : f.safe ≤ f.data.size) : (f.safe : Int) + max 0 (min keep ((f.data.size : Int) - f.safe)) = (crN keep f : Int) := by
  unfold crN
  split
  · omega
  · split <;> omega
theorem cut_size {s : ByteArray} {n : Nat} (h : n ≤ s.size) : (cut s n).size = n := by
  unfold cut
  simp [ByteArray.size_extract]
  omega

theorem slice_h (s : ByteArray) (X : Int) (M : Nat) (h : X = (M : Int)) (hM : M ≤ s.size) (w : World) : (Instr.slice 9 (.string s) none (some (.int .i64 X)) none).run Tryz.prog w = .ok (.string (cut s M)) w := by
  subst h
  rw [run_slice_string_h (P := Tryz.prog) (w := w) (t := 9) (s := s) Tryz.underlying9 .i64 (M : Int) (by omega) (by omega)]
  rfl

/-- The disk that is made: its files grow. -/
theorem St.grow {T e : TypeId} {w W W5 : World} {b : Nat} {fs : List Fl} {left : Int} {fv v5 : Value} {f : Fl} {o : Obj} (hw : Below w.heap.size w W) (h : St T e W w.heap.size b fs left fv) (hT : T ≠ e) (o5 : W5.ownsRow w.heap.size e 3 v5 (fs.length + 1) (fs.flatMap fC ++ fC f)) (g : (W.alloc o).grownBy W5 fv.ownBlock) (h5 : v5.ownBlock = fv.ownBlock ∨ v5.ownBlock = some (W.alloc o).heap.size) : St T e (W5.setCell ⟨b, 0, none⟩ v5) w.heap.size b (fs ++ [f]) left v5 ∧ Below w.heap.size w (W5.setCell ⟨b, 0, none⟩ v5) := by
  have hs := h.appended hT o5 g h5
  refine ⟨hs.st, hs.tch.os.trans hw.os, hs.tch.tape.trans hw.tape, hs.tch.output.trans hw.output, Nat.le_trans hw.size hs.tch.size, fun k hk => ?_⟩
  rw [hs.tch.block k (Nat.lt_of_lt_of_le hk hw.size) (fun q => ?_)]
  · exact hw.block k hk
  · rcases q with q | q
    · have := h.ge; omega
    · have := (own_block h.own q).1; omega

set_option maxRecDepth 100000 in
set_option maxHeartbeats 4000000 in
theorem refCrash_any {w : World} {B b : Nat} {fs : List Fl} {left : Int} {fv : Value} (h : St 107 111 w B b fs left fv) (keep : Int) (hk0 : -9223372036854775808 ≤ keep) (hk1 : keep < 9223372036854775808) (hl : fs.length ≤ 4194304) (hsf : ∀ f ∈ fs, f.safe ≤ f.data.size) (hsz : ∀ f ∈ fs, f.data.size ≤ 70368744177664) :
    Calls Tryz.prog 17 #[.pointer (some ⟨b, 0, none⟩), .int .i64 keep] w fun e w' => ∃ b' fv', e = .returned (.pointer (some ⟨b', 0, none⟩)) ∧ Below w.heap.size w w' ∧ St 107 111 w' w.heap.size b' (fs.map (cr keep)) (-1) fv' := by
  obtain ⟨i0, hi0, hz0, hz1, hz2⟩ := info_parts Tryz.info111
  obtain ⟨a, c, rfl, hc, hm⟩ := own_slice h.own
  unfold maxLen at hm
  have CN := hide (refNew_any w w.heap.size (Nat.le_refl _))
  have HS := hide h
  have HSF := hide hsf
  have HSZ := hide hsz
  clear h hsf hsz
  generalize hn : fs.length = n at *
  have HN := hide hn
  clear hn
  go_enter Tryz.func17, Tryz.ntmps17
  go_wp2_with fail
  refine CN.out.mono ?_
  rintro e w1 ⟨b', rfl, hb', hbl, hst⟩
  have HB1 := hide hbl
  have HS1 := hide hst
  clear hbl hst CN
  go_wp2_with fail
  go_loopw [6] (fun i wr => ∃ (k : Nat) (fv' : Value), k ≤ n ∧ i = .int .i64 k ∧ Below w.heap.size w wr ∧ St 107 111 wr w.heap.size b' ((fs.take k).map (cr keep)) (-1) fv') (fun i _ => n - (intOf i).toNat)
  case atStart => exact ⟨0, _, Nat.zero_le _, rfl, HB1.out, HS1.out⟩
  case round =>
    obtain ⟨k, fv', hk, rfl, hbel, hst⟩ := hrel
    have HB := hide hbel
    have HD := hide hst
    clear hbel hst
    obtain ⟨c0, f0⟩ := cell_of (j := 0) (u := .slice a n c) (HS.out.below HB.out).blk rfl
    by_cases hlt : k < n
    · have ho := (HS.out.below HB.out).own
      rw [HN.out] at ho
      obtain ⟨g, rfl⟩ := own_some ho (by omega)
      obtain ⟨d0, d1, d2⟩ := own_fl ho HN.out hlt
      clear ho
      have HTK := hide (take_snoc (by rw [HN.out]; exact hlt : k < fs.length) fl0)
      obtain ⟨f, hf⟩ : ∃ f, f = fs.getD k fl0 := ⟨_, rfl⟩
      have hfm : f ∈ fs := by
        rw [hf, List.getD, List.getElem?_eq_getElem (by rw [HN.out]; exact hlt)]
        exact List.getElem_mem _
      have hs1 := HSF.out f hfm
      have hs2 := HSZ.out f hfm
      rw [← hf] at d0 d1 d2
      have HTK2 : Hid ((fs.take (k + 1)).map (cr keep) = (fs.take k).map (cr keep) ++ [cr keep f]) := by
        show _ = _
        rw [HTK.out, ← hf, List.map_append]
        rfl
      have hml : ((fs.take k).map (cr keep)).length ≤ k := by rw [List.length_map, List.length_take]; omega
      have hcn := crN_le (keep := keep) hs1
      have HCR : Hid (crN keep f = if keep < 0 then f.safe else if keep < (f.data.size : Int) - f.safe then f.safe + keep.toNat else f.data.size) := rfl
      have HCF : Hid (cr keep f = ⟨f.name, cut f.data (crN keep f), crN keep f⟩) := rfl
      clear HTK hf hfm
      obtain ⟨nm, dt, sf⟩ := f
      simp only at d0 d1 d2 hs1 hs2 hcn
      by_cases q1 : keep < 0
      · have hMM : crN keep ⟨nm, dt, sf⟩ = sf := by unfold crN; rw [if_pos q1]
        have hXM : (sf : Int) = ((sf : Nat) : Int) := rfl
        have HM : Hid (crN keep ⟨nm, dt, sf⟩ = sf) := hMM
        have hMle : sf ≤ dt.size := by have := hcn; rw [hMM] at this; exact this
        have hsl := fun w => slice_h dt ((sf : Int)) (sf) hXM hMle w
        clear hcn hMM hXM
        generalize hct : cut dt (sf) = ct at *
        have HCT := hide hct
        clear hct
        go_wp2_with fail
        have HBK := hide (new_blk wr #[.string nm, .string dt, .int .i64 (sf : Int)] 111)
        have HB2 := hide (HB.out.trans ((below_alloc wr (Obj.cells #[.string nm, .string dt, .int .i64 (sf : Int)] 111)).mono HB.out.size))
        have HD2 := hide (HD.out.below (below_alloc wr (Obj.cells #[.string nm, .string dt, .int .i64 (sf : Int)] 111)))
        generalize wr.alloc (Obj.cells #[.string nm, .string dt, .int .i64 (sf : Int)] 111) = W at *
        generalize wr.heap.size = nb at *
        generalize hfl : (fs.take k).map (cr keep) = fl at *
        have HFL := hide hfl
        clear hfl
        obtain ⟨m0, _⟩ := cell_of (j := 0) (u := .string nm) HBK.out rfl
        obtain ⟨m1, _⟩ := cell_of (j := 1) (u := .string dt) HBK.out rfl
        obtain ⟨a2, c2, rfl, _, hm2⟩ := own_slice HD2.out.own
        unfold maxLen at hm2
        obtain ⟨q0, qf0⟩ := cell_of (j := 0) (u := .slice a2 fl.length c2) HD2.out.blk rfl
        have q1 : (W.alloc (Obj.cells #[.string nm, .string ct, .int .i64 ((sf : Int))] 111)).cell? ⟨b', 0, none⟩ = some (.slice a2 fl.length c2) := cellA q0
        have HNB : Hid (some b' ≠ (Value.slice a2 fl.length c2).ownBlock) := HD2.out.ne (by decide)
        have hszW := HB2.out.size
        clear d0 d1 d2 c0 f0
        go_region_law (refine step_own_at _ rfl _ _ 105 rfl w.heap.size 111 i0 (.agg #[.string ⟨#[]⟩, .string ⟨#[]⟩, .int .i64 0]) 3 40 Tryz.underlying105 hi0 hz0 hz1 hz2 rfl (by decide) _ _ _ rfl (by exact HD2.out.own.alloc _) ⟨W.heap.size, 0, none⟩ 1 1 [.string nm, .string ct, .int .i64 ((sf : Int))] rfl rfl (by exact cells_new _ _ _ _ rfl) (by intro u hu; simp at hu; rcases hu with rfl | rfl | rfl <;> rfl) (by unfold maxLen; omega) (by omega) (by simp; omega) ?_; intro v5 W5 o5 g5 n5; obtain ⟨a5, c5, rfl, _, _⟩ := own_slice o5; have g6 : (W.alloc (Obj.cells #[.string nm, .string ct, .int .i64 ((sf : Int))] 111)).grownBy W5 (Value.slice a2 fl.length c2).ownBlock := ⟨g5.os, g5.tape, g5.output, g5.size, g5.block⟩; have KS := hide (St.grow (f := ⟨nm, ct, sf⟩) HB2.out HD2.out (by decide) o5 g6 n5); obtain ⟨fb, ff⟩ := cell_of (j := 0) (u := .slice a2 fl.length c2) (beside g6 HD2.out.blk HNB.out) rfl; clear o5 g5 g6 n5)
        all_goals (
          go_wp2_with fail
          go_roundw
          case rel => exact ⟨k + 1, _, by omega, by go_num, KS.out.2, by rw [HTK2.out, HCF.out, HM.out]; first | (rw [HCT.out]; exact KS.out.1) | exact KS.out.1⟩
          case measure => simp [intOf]; omega)
      · by_cases q2 : keep < (dt.size : Int) - sf
        · obtain ⟨kk, rfl⟩ := Int.eq_ofNat_of_zero_le (Int.not_lt.1 q1)
          have hMM : crN (kk : Int) ⟨nm, dt, sf⟩ = sf + kk := by unfold crN; rw [if_neg q1, if_pos q2, Int.toNat_natCast]
          have hXM : (sf : Int) + (kk : Int) = ((sf + kk : Nat) : Int) := by omega
          have HM : Hid (crN (kk : Int) ⟨nm, dt, sf⟩ = sf + kk) := hMM
          have hMle : sf + kk ≤ dt.size := by have := hcn; rw [hMM] at this; exact this
          have hsl := fun w => slice_h dt ((sf : Int) + (kk : Int)) (sf + kk) hXM hMle w
          clear hcn hMM hXM
          generalize hct : cut dt (sf + kk) = ct at *
          have HCT := hide hct
          clear hct
          go_wp2_with fail
          have HBK := hide (new_blk wr #[.string nm, .string dt, .int .i64 (sf : Int)] 111)
          have HB2 := hide (HB.out.trans ((below_alloc wr (Obj.cells #[.string nm, .string dt, .int .i64 (sf : Int)] 111)).mono HB.out.size))
          have HD2 := hide (HD.out.below (below_alloc wr (Obj.cells #[.string nm, .string dt, .int .i64 (sf : Int)] 111)))
          generalize wr.alloc (Obj.cells #[.string nm, .string dt, .int .i64 (sf : Int)] 111) = W at *
          generalize wr.heap.size = nb at *
          generalize hfl : (fs.take k).map (cr (kk : Int)) = fl at *
          have HFL := hide hfl
          clear hfl
          obtain ⟨m0, _⟩ := cell_of (j := 0) (u := .string nm) HBK.out rfl
          obtain ⟨m1, _⟩ := cell_of (j := 1) (u := .string dt) HBK.out rfl
          obtain ⟨a2, c2, rfl, _, hm2⟩ := own_slice HD2.out.own
          unfold maxLen at hm2
          obtain ⟨q0, qf0⟩ := cell_of (j := 0) (u := .slice a2 fl.length c2) HD2.out.blk rfl
          have q1 : (W.alloc (Obj.cells #[.string nm, .string ct, .int .i64 ((sf : Int) + (kk : Int))] 111)).cell? ⟨b', 0, none⟩ = some (.slice a2 fl.length c2) := cellA q0
          have HNB : Hid (some b' ≠ (Value.slice a2 fl.length c2).ownBlock) := HD2.out.ne (by decide)
          have hszW := HB2.out.size
          clear d0 d1 d2 c0 f0
          go_region_law (refine step_own_at _ rfl _ _ 105 rfl w.heap.size 111 i0 (.agg #[.string ⟨#[]⟩, .string ⟨#[]⟩, .int .i64 0]) 3 40 Tryz.underlying105 hi0 hz0 hz1 hz2 rfl (by decide) _ _ _ rfl (by exact HD2.out.own.alloc _) ⟨W.heap.size, 0, none⟩ 1 1 [.string nm, .string ct, .int .i64 ((sf : Int) + (kk : Int))] rfl rfl (by exact cells_new _ _ _ _ rfl) (by intro u hu; simp at hu; rcases hu with rfl | rfl | rfl <;> rfl) (by unfold maxLen; omega) (by omega) (by simp; omega) ?_; intro v5 W5 o5 g5 n5; obtain ⟨a5, c5, rfl, _, _⟩ := own_slice o5; have g6 : (W.alloc (Obj.cells #[.string nm, .string ct, .int .i64 ((sf : Int) + (kk : Int))] 111)).grownBy W5 (Value.slice a2 fl.length c2).ownBlock := ⟨g5.os, g5.tape, g5.output, g5.size, g5.block⟩; have KS := hide (St.grow (f := ⟨nm, ct, sf + kk⟩) HB2.out HD2.out (by decide) (by rw [← Int.natCast_add] at o5; exact o5) g6 n5); obtain ⟨fb, ff⟩ := cell_of (j := 0) (u := .slice a2 fl.length c2) (beside g6 HD2.out.blk HNB.out) rfl; clear o5 g5 g6 n5)
          all_goals (
            go_wp2_with fail
            go_roundw
            case rel => exact ⟨k + 1, _, by omega, by go_num, KS.out.2, by rw [HTK2.out, HCF.out, HM.out]; first | (rw [HCT.out]; exact KS.out.1) | exact KS.out.1⟩
            case measure => simp [intOf]; omega)
        · have hMM : crN keep ⟨nm, dt, sf⟩ = dt.size := by unfold crN; rw [if_neg q1, if_neg q2]
          have hXM : (dt.size : Int) = ((dt.size : Nat) : Int) := rfl
          have HM : Hid (crN keep ⟨nm, dt, sf⟩ = dt.size) := hMM
          have hMle : dt.size ≤ dt.size := by have := hcn; rw [hMM] at this; exact this
          have hsl := fun w => slice_h dt ((dt.size : Int)) (dt.size) hXM hMle w
          clear hcn hMM hXM
          generalize hct : cut dt (dt.size) = ct at *
          have HCT := hide hct
          clear hct
          go_wp2_with fail
          have HBK := hide (new_blk wr #[.string nm, .string dt, .int .i64 (sf : Int)] 111)
          have HB2 := hide (HB.out.trans ((below_alloc wr (Obj.cells #[.string nm, .string dt, .int .i64 (sf : Int)] 111)).mono HB.out.size))
          have HD2 := hide (HD.out.below (below_alloc wr (Obj.cells #[.string nm, .string dt, .int .i64 (sf : Int)] 111)))
          generalize wr.alloc (Obj.cells #[.string nm, .string dt, .int .i64 (sf : Int)] 111) = W at *
          generalize wr.heap.size = nb at *
          generalize hfl : (fs.take k).map (cr keep) = fl at *
          have HFL := hide hfl
          clear hfl
          obtain ⟨m0, _⟩ := cell_of (j := 0) (u := .string nm) HBK.out rfl
          obtain ⟨m1, _⟩ := cell_of (j := 1) (u := .string dt) HBK.out rfl
          obtain ⟨a2, c2, rfl, _, hm2⟩ := own_slice HD2.out.own
          unfold maxLen at hm2
          obtain ⟨q0, qf0⟩ := cell_of (j := 0) (u := .slice a2 fl.length c2) HD2.out.blk rfl
          have q1 : (W.alloc (Obj.cells #[.string nm, .string ct, .int .i64 ((dt.size : Int))] 111)).cell? ⟨b', 0, none⟩ = some (.slice a2 fl.length c2) := cellA q0
          have HNB : Hid (some b' ≠ (Value.slice a2 fl.length c2).ownBlock) := HD2.out.ne (by decide)
          have hszW := HB2.out.size
          clear d0 d1 d2 c0 f0
          go_region_law (refine step_own_at _ rfl _ _ 105 rfl w.heap.size 111 i0 (.agg #[.string ⟨#[]⟩, .string ⟨#[]⟩, .int .i64 0]) 3 40 Tryz.underlying105 hi0 hz0 hz1 hz2 rfl (by decide) _ _ _ rfl (by exact HD2.out.own.alloc _) ⟨W.heap.size, 0, none⟩ 1 1 [.string nm, .string ct, .int .i64 ((dt.size : Int))] rfl rfl (by exact cells_new _ _ _ _ rfl) (by intro u hu; simp at hu; rcases hu with rfl | rfl | rfl <;> rfl) (by unfold maxLen; omega) (by omega) (by simp; omega) ?_; intro v5 W5 o5 g5 n5; obtain ⟨a5, c5, rfl, _, _⟩ := own_slice o5; have g6 : (W.alloc (Obj.cells #[.string nm, .string ct, .int .i64 ((dt.size : Int))] 111)).grownBy W5 (Value.slice a2 fl.length c2).ownBlock := ⟨g5.os, g5.tape, g5.output, g5.size, g5.block⟩; have KS := hide (St.grow (f := ⟨nm, ct, dt.size⟩) HB2.out HD2.out (by decide) o5 g6 n5); obtain ⟨fb, ff⟩ := cell_of (j := 0) (u := .slice a2 fl.length c2) (beside g6 HD2.out.blk HNB.out) rfl; clear o5 g5 g6 n5)
          all_goals (
            go_wp2_with fail
            go_roundw
            case rel => exact ⟨k + 1, _, by omega, by go_num, KS.out.2, by rw [HTK2.out, HCF.out, HM.out]; first | (rw [HCT.out]; exact KS.out.1) | exact KS.out.1⟩
            case measure => simp [intOf]; omega)
    · have hke : k = n := by omega
      subst hke
      have HF : Hid (fs.take k = fs) := List.take_of_length_le (by rw [HN.out]; exact Nat.le_refl _)
      go_wp2
      go_ret
      exact ⟨b', fv', rfl, HB.out, by have := HD.out; rwa [HF.out] at this⟩
end Go.Proofs.YtkncboinfcnklaaGreatDoor

namespace Go.Proofs.YtkncboinfcnklaaGreatDoor
/-! ### the two lists of files -/
structure Eqv (n M : Nat) (fs gs : List Fl) : Prop where
  perm : fs.Perm gs
  nd : (fs.map Fl.name).Nodup
  sf : ∀ f ∈ fs, f.safe ≤ f.data.size
  len : fs.length ≤ n
  sz : ∀ f ∈ fs, f.data.size ≤ n * M

theorem name_inj : ∀ {fs : List Fl}, (fs.map Fl.name).Nodup → ∀ {f g : Fl}, f ∈ fs → g ∈ fs → f.name = g.name → f = g
  | h :: l, hn, f, g, hf, hg, e => by
    rw [List.map_cons, List.nodup_cons] at hn
    rcases List.mem_cons.1 hf with rfl | hf'
    · rcases List.mem_cons.1 hg with rfl | hg
      · rfl
      · exact absurd (e ▸ List.mem_map_of_mem hg) hn.1
    · rcases List.mem_cons.1 hg with rfl | hg
      · exact absurd (e ▸ List.mem_map_of_mem hf') hn.1
      · exact name_inj hn.2 hf' hg e

theorem Eqv.nil (n M : Nat) : Eqv n M [] [] := ⟨List.Perm.refl _, by simp, by simp, by simp, by simp⟩
theorem Eqv.lenR {n M : Nat} {fs gs : List Fl} (h : Eqv n M fs gs) : gs.length ≤ n := by rw [← h.perm.length_eq]; exact h.len
theorem Eqv.szR {n M : Nat} {fs gs : List Fl} (h : Eqv n M fs gs) : ∀ f ∈ gs, f.data.size ≤ n * M := fun f hf => h.sz f (h.perm.mem_iff.2 hf)
theorem Eqv.sfR {n M : Nat} {fs gs : List Fl} (h : Eqv n M fs gs) : ∀ f ∈ gs, f.safe ≤ f.data.size := fun f hf => h.sf f (h.perm.mem_iff.2 hf)
theorem Eqv.mono {n n' M : Nat} {fs gs : List Fl} (h : Eqv n M fs gs) (hn : n ≤ n') : Eqv n' M fs gs := ⟨h.perm, h.nd, h.sf, Nat.le_trans h.len hn, fun f hf => Nat.le_trans (h.sz f hf) (Nat.mul_le_mul_right _ hn)⟩

theorem wo_sub (x : ByteArray) (fs : List Fl) : (wo x fs).Sublist fs := List.filter_sublist
theorem wo_mem {x : ByteArray} {fs : List Fl} {f : Fl} (h : f ∈ wo x fs) : f ∈ fs ∧ f.name ≠ x := by
  unfold wo at h
  rw [List.mem_filter] at h
  exact ⟨h.1, by simpa using h.2⟩
theorem wo_none {x : ByteArray} {fs : List Fl} (h : ∀ f ∈ fs, f.name ≠ x) : wo x fs = fs := by
  unfold wo
  rw [List.filter_eq_self]
  intro f hf
  simpa using h f hf
theorem Eqv.wo {n M : Nat} {fs gs : List Fl} (h : Eqv n M fs gs) (x : ByteArray) : Eqv n M (wo x fs) (wo x gs) :=
  ⟨h.perm.filter _, List.Sublist.nodup ((wo_sub x fs).map _) h.nd, fun f hf => h.sf f (wo_mem hf).1, Nat.le_trans (wo_len x fs) h.len, fun f hf => h.sz f (wo_mem hf).1⟩
/-- One file more, of a name that there is not. -/
theorem Eqv.snoc {n M : Nat} {fs gs : List Fl} (h : Eqv n M fs gs) {f : Fl} (hn : ∀ g ∈ fs, g.name ≠ f.name) (h1 : f.safe ≤ f.data.size) (h2 : f.data.size ≤ (n + 1) * M) : Eqv (n + 1) M (fs ++ [f]) (gs ++ [f]) := by
  refine ⟨h.perm.append_right _, ?_, ?_, by have := h.len; simp; omega, ?_⟩
  · rw [List.map_append, List.nodup_append]
    refine ⟨h.nd, by simp, ?_⟩
    intro a ha b hb
    simp at hb
    subst hb
    obtain ⟨g, hg, rfl⟩ := List.mem_map.1 ha
    exact hn g hg
  · intro g hg
    rcases List.mem_append.1 hg with hg | hg
    · exact h.sf g hg
    · simp at hg; subst hg; exact h1
  · intro g hg
    rcases List.mem_append.1 hg with hg | hg
    · exact Nat.le_trans (h.sz g hg) (Nat.mul_le_mul_right _ (Nat.le_succ _))
    · simp at hg; subst hg; exact h2

theorem at_no {fs : List Fl} {x : ByteArray} {r : Int} (h : At fs x r) (hr : r < 0) : ∀ f ∈ fs, f.name ≠ x := by
  rcases h with ⟨_, h⟩ | ⟨i, _, hi, _⟩
  · intro f hf
    obtain ⟨j, hj, rfl⟩ := List.getElem_of_mem hf
    have := h j hj
    rwa [List.getD, List.getElem?_eq_getElem hj] at this
  · omega
theorem at_yes {fs : List Fl} {x : ByteArray} {r : Int} (h : At fs x r) (hr : ¬ r < 0) : flAt fs r ∈ fs ∧ (flAt fs r).name = x := by
  rcases h with ⟨h, _⟩ | ⟨i, hi, e, hn, _⟩
  · omega
  · subst e
    unfold flAt
    rw [if_neg hr, Int.toNat_natCast]
    refine ⟨?_, hn⟩
    rw [List.getD, List.getElem?_eq_getElem hi]
    exact List.getElem_mem hi
theorem Eqv.neg {n M : Nat} {fs gs : List Fl} (h : Eqv n M fs gs) {x : ByteArray} {r r' : Int} (ha : At fs x r) (hb : At gs x r') : r < 0 ↔ r' < 0 := by
  constructor
  · intro q
    refine Decidable.byContradiction fun q2 => ?_
    obtain ⟨a, b⟩ := at_yes hb q2
    exact at_no ha q _ (h.perm.mem_iff.2 a) b
  · intro q
    refine Decidable.byContradiction fun q2 => ?_
    obtain ⟨a, b⟩ := at_yes ha q2
    exact at_no hb q _ (h.perm.mem_iff.1 a) b
theorem Eqv.fl {n M : Nat} {fs gs : List Fl} (h : Eqv n M fs gs) {x : ByteArray} {r r' : Int} (ha : At fs x r) (hb : At gs x r') : flAt gs r' = flAt fs r := by
  by_cases q : r < 0
  · have q2 := (h.neg ha hb).1 q
    unfold flAt
    rw [if_pos q, if_pos q2]
  · have q2 : ¬ r' < 0 := fun c => q ((h.neg ha hb).2 c)
    obtain ⟨a, b⟩ := at_yes ha q
    obtain ⟨a', b'⟩ := at_yes hb q2
    exact name_inj h.nd (h.perm.mem_iff.2 a') a (b'.trans b.symm)

/-- To put another file at the place of a name is to take that name away and to put the file behind. -/
theorem set_perm : ∀ {fs : List Fl} {k : Nat} {x : ByteArray} {f : Fl}, (fs.map Fl.name).Nodup → k < fs.length → (fs.getD k fl0).name = x → (fs.set k f).Perm (wo x fs ++ [f])
  | g :: l, 0, x, f, hn, _, hx => by
    rw [List.map_cons, List.nodup_cons] at hn
    have hx : g.name = x := by simpa using hx
    have e : wo x (g :: l) = l := by
      have : wo x (g :: l) = wo x l := by simp [wo, hx]
      rw [this]
      exact wo_none fun y hy c => hn.1 (hx ▸ c ▸ List.mem_map_of_mem hy)
    rw [e, List.set_cons_zero]
    exact (List.perm_append_comm (l₁ := [f]) (l₂ := l))
  | g :: l, k + 1, x, f, hn, hk, hx => by
    rw [List.map_cons, List.nodup_cons] at hn
    have hx : (l.getD k fl0).name = x := by simpa using hx
    have hk : k < l.length := by simpa using hk
    have hm : l.getD k fl0 ∈ l := by
      rw [List.getD, List.getElem?_eq_getElem hk]
      exact List.getElem_mem hk
    have e : wo x (g :: l) = g :: wo x l := by
      have : g.name ≠ x := fun c => hn.1 (by rw [c, ← hx]; exact List.mem_map_of_mem hm)
      simp [wo, this]
    rw [e, List.set_cons_succ, List.cons_append]
    exact (set_perm hn.2 hk hx).cons _

theorem Eqv.permL {n M : Nat} {fs fs' gs : List Fl} (h : Eqv n M fs gs) (hp : fs'.Perm fs) : Eqv n M fs' gs :=
  ⟨hp.trans h.perm, (hp.map _).nodup_iff.2 h.nd, fun f hf => h.sf f (hp.mem_iff.1 hf), by rw [hp.length_eq]; exact h.len, fun f hf => h.sz f (hp.mem_iff.1 hf)⟩

theorem flAt_sz {n M : Nat} {fs gs : List Fl} (h : Eqv n M fs gs) {x : ByteArray} {r : Int} (ha : At fs x r) : (flAt fs r).safe ≤ (flAt fs r).data.size ∧ (flAt fs r).data.size ≤ n * M := by
  by_cases q : r < 0
  · unfold flAt
    rw [if_pos q]
    exact ⟨Nat.le_refl _, Nat.zero_le _⟩
  · exact ⟨h.sf _ (at_yes ha q).1, h.sz _ (at_yes ha q).1⟩
theorem flAt_pos {fs : List Fl} {r : Int} (q : ¬ r < 0) : flAt fs r = fs.getD r.toNat fl0 := if_neg q
theorem at_lt {fs : List Fl} {x : ByteArray} {r : Int} (h : At fs x r) (hr : ¬ r < 0) : r.toNat < fs.length := by
  rcases h with ⟨h, _⟩ | ⟨i, hi, e, _, _⟩
  · omega
  · subst e; simpa using hi

theorem Eqv.app {n M : Nat} {fs gs : List Fl} (h : Eqv n M fs gs) {x t : ByteArray} {r r' : Int} (ha : At fs x r) (hb : At gs x r') (ht : t.size ≤ M) : Eqv (n + 1) M (aApp fs x t r) (rApp gs x t r') := by
  obtain ⟨s1, s2⟩ := flAt_sz h ha
  have e := h.fl ha hb
  have hsn : Eqv (n + 1) M (Go.Proofs.YtkncboinfcnklaaGreatDoor.wo x fs ++ [⟨x, (flAt fs r).data ++ t, (flAt fs r).safe⟩]) (rApp gs x t r') := by
    unfold rApp
    rw [e]
    exact (h.wo x).snoc (fun g hg => (wo_mem hg).2) (by simp only [ByteArray.size_append]; omega) (by simp only [ByteArray.size_append, Nat.add_mul]; omega)
  by_cases q : r < 0
  · have e2 : aApp fs x t r = Go.Proofs.YtkncboinfcnklaaGreatDoor.wo x fs ++ [⟨x, (flAt fs r).data ++ t, (flAt fs r).safe⟩] := by
      unfold aApp flAt
      rw [if_pos q, if_pos q, wo_none (at_no ha q)]
      rfl
    rw [e2]
    exact hsn
  · refine hsn.permL ?_
    unfold aApp setD
    rw [if_neg q, flAt_pos q, show (fs.getD r.toNat fl0).name = x from flAt_pos q ▸ (at_yes ha q).2]
    exact set_perm h.nd (at_lt ha q) (flAt_pos q ▸ (at_yes ha q).2)

theorem Eqv.sync {n M : Nat} {fs gs : List Fl} (h : Eqv n M fs gs) {x : ByteArray} {r r' : Int} (ha : At fs x r) (hb : At gs x r') : Eqv (n + 1) M (aSync fs r) (rSync gs x r') := by
  obtain ⟨s1, s2⟩ := flAt_sz h ha
  have e := h.fl ha hb
  have en := h.neg ha hb
  unfold rSync
  by_cases q : r < 0
  · rw [if_pos (en.1 q)]
    unfold aSync
    rw [if_pos q]
    exact h.mono (Nat.le_succ _)
  · rw [if_neg (fun c => q (en.2 c)), e]
    have hsn : Eqv (n + 1) M (Go.Proofs.YtkncboinfcnklaaGreatDoor.wo x fs ++ [⟨x, (flAt fs r).data, (flAt fs r).data.size⟩]) (Go.Proofs.YtkncboinfcnklaaGreatDoor.wo x gs ++ [⟨x, (flAt fs r).data, (flAt fs r).data.size⟩]) :=
      (h.wo x).snoc (fun g hg => (wo_mem hg).2) (Nat.le_refl _) (Nat.le_trans s2 (Nat.mul_le_mul_right _ (Nat.le_succ _)))
    refine hsn.permL ?_
    unfold aSync setS
    rw [if_neg q, flAt_pos q, show (fs.getD r.toNat fl0).name = x from flAt_pos q ▸ (at_yes ha q).2]
    exact set_perm h.nd (at_lt ha q) (flAt_pos q ▸ (at_yes ha q).2)

theorem wo_wo (x : ByteArray) (fs : List Fl) : Go.Proofs.YtkncboinfcnklaaGreatDoor.wo x (Go.Proofs.YtkncboinfcnklaaGreatDoor.wo x fs) = Go.Proofs.YtkncboinfcnklaaGreatDoor.wo x fs := wo_none fun _ hf => (wo_mem hf).2
theorem set_self {fs : List Fl} {k : Nat} (hk : k < fs.length) : fs.set k (fs.getD k fl0) = fs := by
  rw [List.getD, List.getElem?_eq_getElem hk]
  exact List.set_getElem_self hk

theorem Eqv.ren {n M : Nat} {fs gs : List Fl} (h : Eqv n M fs gs) {x y : ByteArray} {r r' : Int} (ha : At fs x r) (hb : At gs x r') : Eqv (n + 1) M (aRen fs x y r) (rRen gs x y r') := by
  obtain ⟨s1, s2⟩ := flAt_sz h ha
  have e := h.fl ha hb
  have en := h.neg ha hb
  unfold rRen
  by_cases q : r < 0
  · rw [if_pos (en.1 q)]
    unfold aRen
    rw [if_pos (Or.inl q)]
    exact h.mono (Nat.le_succ _)
  · rw [if_neg (fun c => q (en.2 c)), e]
    have hsn : Eqv (n + 1) M (Go.Proofs.YtkncboinfcnklaaGreatDoor.wo y (Go.Proofs.YtkncboinfcnklaaGreatDoor.wo x fs) ++ [⟨y, (flAt fs r).data, (flAt fs r).safe⟩]) (Go.Proofs.YtkncboinfcnklaaGreatDoor.wo y (Go.Proofs.YtkncboinfcnklaaGreatDoor.wo x gs) ++ [⟨y, (flAt fs r).data, (flAt fs r).safe⟩]) :=
      ((h.wo x).wo y).snoc (fun g hg => (wo_mem hg).2) s1 (Nat.le_trans s2 (Nat.mul_le_mul_right _ (Nat.le_succ _)))
    unfold aRen
    by_cases q2 : x = y
    · rw [if_pos (Or.inr q2)]
      subst q2
      refine hsn.permL ?_
      rw [wo_wo]
      have hfx : (⟨x, (flAt fs r).data, (flAt fs r).safe⟩ : Fl) = fs.getD r.toNat fl0 := by
        rw [← flAt_pos q]
        have := (at_yes ha q).2
        generalize flAt fs r = f at *
        cases f
        simp only at this
        rw [this]
      rw [hfx]
      have := set_perm (f := fs.getD r.toNat fl0) h.nd (at_lt ha q) (flAt_pos q ▸ (at_yes ha q).2)
      rwa [set_self (at_lt ha q)] at this
    · rw [if_neg (by rintro (c | c); exact q c; exact q2 c), ← flAt_pos q]
      exact hsn

theorem Eqv.crash {n M : Nat} {fs gs : List Fl} (h : Eqv n M fs gs) (keep : Int) : Eqv n M (fs.map (cr keep)) (gs.map (cr keep)) := by
  refine ⟨h.perm.map _, ?_, ?_, by rw [List.length_map]; exact h.len, ?_⟩
  · rw [List.map_map]
    exact h.nd
  · intro f hf
    obtain ⟨g, hg, rfl⟩ := List.mem_map.1 hf
    show crN keep g ≤ (cut g.data (crN keep g)).size
    rw [cut_size (crN_le (h.sf g hg))]
    exact Nat.le_refl _
  · intro f hf
    obtain ⟨g, hg, rfl⟩ := List.mem_map.1 hf
    show (cut g.data (crN keep g)).size ≤ _
    rw [cut_size (crN_le (h.sf g hg))]
    exact Nat.le_trans (crN_le (h.sf g hg)) (h.sz g hg)
end Go.Proofs.YtkncboinfcnklaaGreatDoor

namespace Go.Proofs.YtkncboinfcnklaaGreatDoor
open Go.RowKit Go.Deep Go.Proofs.YtkncboinfcnklaaGreatDoor.Mth

theorem bx_set {w : World} {nb : Nat} {C : Array Value} {t : TypeId} (h : w.heap[nb]? = some (Obj.cells C t (0, 0))) (j : Nat) (v : Value) : (w.setCell ⟨nb, j, none⟩ v).heap[nb]? = some (Obj.cells (C.setIfInBounds j v) t (0, 0)) := by
  simp [World.setCell, Array.getElem?_modify, h]

/-- The file's copy, as it is written: what stands elsewhere stands. -/
theorem box_below (wr : World) (nm dt ct : ByteArray) (sf : Int) (m : Int) (T : TypeId) : Below wr.heap.size wr (((wr.alloc (Obj.cells #[.string nm, .string dt, .int .i64 sf] T)).setCell ⟨wr.heap.size, 1, none⟩ (.string ct)).setCell ⟨wr.heap.size, 2, none⟩ (.int .i64 m)) :=
  below_set (w := wr) (below_set (w := wr) (below_alloc wr _) (Nat.le_refl _)) (Nat.le_refl _)
theorem box_blk (wr : World) (nm dt ct : ByteArray) (sf : Int) (m : Int) (T : TypeId) : (((wr.alloc (Obj.cells #[.string nm, .string dt, .int .i64 sf] T)).setCell ⟨wr.heap.size, 1, none⟩ (.string ct)).setCell ⟨wr.heap.size, 2, none⟩ (.int .i64 m)).heap[wr.heap.size]? = some (Obj.cells #[.string nm, .string ct, .int .i64 m] T (0, 0)) := by
  have h := bx_set (bx_set (new_blk wr #[.string nm, .string dt, .int .i64 sf] T) 1 (.string ct)) 2 (.int .i64 m)
  exact h

set_option maxRecDepth 100000 in
set_option maxHeartbeats 4000000 in
theorem apiCrash_any {w : World} {B b hb : Nat} {fs : List Fl} {left : Int} {fv : Value} (h : St 100 109 w B b fs left fv) (hp : Ptr 104 w hb b) (keep : Int) (_hk0 : -9223372036854775808 ≤ keep) (_hk1 : keep < 9223372036854775808) (hl : fs.length ≤ 4194304) (hsf : ∀ f ∈ fs, f.safe ≤ f.data.size) (hsz : ∀ f ∈ fs, f.data.size ≤ 70368744177664) :
    Calls Tryz.prog 16 #[.pointer (some ⟨hb, 0, none⟩), .int .i64 keep] w fun e w' => ∃ d' h' b' fv', e = .returned (.tuple #[.pointer (some ⟨d', 0, none⟩), .pointer (some ⟨h', 0, none⟩)]) ∧ w.heap.size ≤ d' ∧ w.heap.size ≤ h' ∧ Below w.heap.size w w' ∧ St 100 109 w' w.heap.size b' (fs.map (cr keep)) (-1) fv' ∧ Ptr 102 w' d' b' ∧ Ptr 104 w' h' b' := by
  obtain ⟨i0, hi0, hz0, hz1, hz2⟩ := info_parts Tryz.info109
  obtain ⟨a, c, rfl, hc, hm⟩ := own_slice h.own
  unfold maxLen at hm
  have CN := hide (apiNew_any w w.heap.size (Nat.le_refl _))
  have HS := hide h
  have HP := hide hp
  have HSF := hide hsf
  have HSZ := hide hsz
  clear h hp hsf hsz
  generalize hn : fs.length = n at *
  have HN := hide hn
  clear hn
  go_enter Tryz.func16, Tryz.ntmps16
  go_wp2_with fail
  refine CN.out.mono ?_
  rintro e w1 ⟨d', h', b', rfl, hb', hd', hh', hbl, hst, hpd, hph⟩
  have HB1 := hide hbl
  have HS1 := hide hst
  have HPD1 := hide hpd
  have HPH1 := hide hph
  obtain ⟨p0, _⟩ := cell_of (j := 0) (u := .pointer (some ⟨b, 0, none⟩)) (HP.out.below hbl) rfl
  obtain ⟨c0, f0⟩ := cell_of (j := 0) (u := .slice a n c) (HS.out.below hbl).blk rfl
  clear hbl hst CN hpd hph
  go_wp2_with fail
  clear p0 c0 f0
  go_loopw [23] (fun i wr => ∃ (k : Nat) (fv' : Value), k ≤ n ∧ i = .int .i64 k ∧ Below w.heap.size w wr ∧ St 100 109 wr w.heap.size b' ((fs.take k).map (cr keep)) (-1) fv' ∧ Ptr 102 wr d' b' ∧ Ptr 104 wr h' b') (fun i _ => n - (intOf i).toNat)
  case atStart => exact ⟨0, _, Nat.zero_le _, rfl, HB1.out, HS1.out, HPD1.out, HPH1.out⟩
  case round =>
    obtain ⟨k, fv', hk, rfl, hbel, hst, hpd, hph⟩ := hrel
    have HB := hide hbel
    have HD := hide hst
    have HPD := hide hpd
    have HPH := hide hph
    clear hbel hst hpd hph
    by_cases hlt : k < n
    · have ho := (HS.out.below HB.out).own
      rw [HN.out] at ho
      obtain ⟨g, rfl⟩ := own_some ho (by omega)
      obtain ⟨d0, d1, d2⟩ := own_fl ho HN.out hlt
      clear ho
      have HTK := hide (take_snoc (by rw [HN.out]; exact hlt : k < fs.length) fl0)
      obtain ⟨f, hf⟩ : ∃ f, f = fs.getD k fl0 := ⟨_, rfl⟩
      have hfm : f ∈ fs := by
        rw [hf, List.getD, List.getElem?_eq_getElem (by rw [HN.out]; exact hlt)]
        exact List.getElem_mem _
      have hs1 := HSF.out f hfm
      have hs2 := HSZ.out f hfm
      rw [← hf] at d0 d1 d2
      have HTK2 : Hid ((fs.take (k + 1)).map (cr keep) = (fs.take k).map (cr keep) ++ [cr keep f]) := by
        show _ = _
        rw [HTK.out, ← hf, List.map_append]
        rfl
      have hml : ((fs.take k).map (cr keep)).length ≤ k := by rw [List.length_map, List.length_take]; omega
      have hcn := crN_le (keep := keep) hs1
      have hXM := crN_api (keep := keep) hs1
      have HCF : Hid (cr keep f = ⟨f.name, cut f.data (crN keep f), crN keep f⟩) := rfl
      have hcs := cut_size hcn
      clear HTK hf hfm
      obtain ⟨nm, dt, sf⟩ := f
      simp only at d0 d1 d2 hs1 hs2 hcn hXM hcs HCF
      have hsl := fun w => slice_h dt ((sf : Int) + max 0 (min keep ((dt.size : Int) - sf))) (crN keep ⟨nm, dt, sf⟩) hXM hcn w
      generalize crN keep ⟨nm, dt, sf⟩ = M at *
      have HCS := hide hcs
      clear hcs
      go_wp2_with fail
      have HBK := hide (new_blk wr #[.string nm, .string (dt.extract 0 M), .int .i64 (M : Int)] 109)
      have HB2 := hide (HB.out.trans ((below_alloc wr (Obj.cells #[.string nm, .string (dt.extract 0 M), .int .i64 (M : Int)] 109)).mono HB.out.size))
      have HD2 := hide (HD.out.below (below_alloc wr (Obj.cells #[.string nm, .string (dt.extract 0 M), .int .i64 (M : Int)] 109)))
      have HPD2 := hide (HPD.out.below (below_alloc wr (Obj.cells #[.string nm, .string (dt.extract 0 M), .int .i64 (M : Int)] 109)))
      have HPH2 := hide (HPH.out.below (below_alloc wr (Obj.cells #[.string nm, .string (dt.extract 0 M), .int .i64 (M : Int)] 109)))
      generalize wr.alloc (Obj.cells #[.string nm, .string (dt.extract 0 M), .int .i64 (M : Int)] 109) = W at *
      generalize wr.heap.size = nb at *
      generalize hfl : (fs.take k).map (cr keep) = fl at *
      have HFL := hide hfl
      have HCT : Hid (cut dt M = dt.extract 0 M) := rfl
      generalize dt.extract 0 M = ct at *
      clear hfl hsl hXM
      obtain ⟨m0, _⟩ := cell_of (j := 0) (u := .string nm) HBK.out rfl
      obtain ⟨m1, _⟩ := cell_of (j := 1) (u := .string ct) HBK.out rfl
      obtain ⟨m2, _⟩ := cell_of (j := 2) (u := .int .i64 (M : Int)) HBK.out rfl
      have m0' : (W.alloc (Obj.cells #[.string nm, .string ct, .int .i64 (M : Int)] 109)).cell? ⟨nb, 0, none⟩ = some (.string nm) := cellA m0
      have m1' : (W.alloc (Obj.cells #[.string nm, .string ct, .int .i64 (M : Int)] 109)).cell? ⟨nb, 1, none⟩ = some (.string ct) := cellA m1
      have m2' : (W.alloc (Obj.cells #[.string nm, .string ct, .int .i64 (M : Int)] 109)).cell? ⟨nb, 2, none⟩ = some (.int .i64 (M : Int)) := cellA m2
      obtain ⟨a2, c2, rfl, _, hm2⟩ := own_slice HD2.out.own
      unfold maxLen at hm2
      obtain ⟨q0, qf0⟩ := cell_of (j := 0) (u := .slice a2 fl.length c2) HD2.out.blk rfl
      have q1 : (W.alloc (Obj.cells #[.string nm, .string ct, .int .i64 (M : Int)] 109)).cell? ⟨b', 0, none⟩ = some (.slice a2 fl.length c2) := cellA q0
      obtain ⟨r0, _⟩ := cell_of (j := 0) (u := .pointer (some ⟨b', 0, none⟩)) HPH2.out rfl
      have r1 : (W.alloc (Obj.cells #[.string nm, .string ct, .int .i64 (M : Int)] 109)).cell? ⟨h', 0, none⟩ = some (.pointer (some ⟨b', 0, none⟩)) := cellA r0
      have HNB : Hid (some b' ≠ (Value.slice a2 fl.length c2).ownBlock) := HD2.out.ne (by decide)
      have HND : Hid (some h' ≠ (Value.slice a2 fl.length c2).ownBlock) := by
        intro q
        obtain ⟨_, _, D, hD⟩ := own_block HD2.out.own q
        rw [HPH2.out] at hD
        injection hD with hD
        injection hD with _ hD _
        exact absurd hD (by decide)
      have hszW := HB2.out.size
      clear d0 d1 d2
      go_region_law (refine step_own_at _ rfl _ _ 98 rfl w.heap.size 109 i0 (.agg #[.string ⟨#[]⟩, .string ⟨#[]⟩, .int .i64 0]) 3 40 Tryz.underlying98 hi0 hz0 hz1 hz2 rfl (by decide) _ _ _ rfl (by exact HD2.out.own.alloc _) ⟨W.heap.size, 0, none⟩ 1 1 [.string nm, .string ct, .int .i64 (M : Int)] rfl rfl (by exact cells_new _ _ _ _ rfl) (by intro u hu; simp at hu; rcases hu with rfl | rfl | rfl <;> rfl) (by unfold maxLen; omega) (by omega) (by simp; omega) ?_; intro v5 W5 o5 g5 n5; obtain ⟨a5, c5, rfl, _, _⟩ := own_slice o5; have g6 : (W.alloc (Obj.cells #[.string nm, .string ct, .int .i64 (M : Int)] 109)).grownBy W5 (Value.slice a2 fl.length c2).ownBlock := ⟨g5.os, g5.tape, g5.output, g5.size, g5.block⟩; have KS := hide (St.grow (f := ⟨nm, ct, M⟩) HB2.out HD2.out (by decide) o5 g6 n5); have KT := hide (HD2.out.appended (f := ⟨nm, ct, M⟩) (by decide) o5 g6 n5); obtain ⟨fb, ff⟩ := cell_of (j := 0) (u := .slice a2 fl.length c2) (beside g6 HD2.out.blk HNB.out) rfl; obtain ⟨fd, _⟩ := cell_of (j := 0) (u := .pointer (some ⟨b', 0, none⟩)) (beside g6 HPH2.out HND.out) rfl; clear o5 g5 g6 n5)
      all_goals (
        have HPD5 := hide (HPD2.out.keep HD2.out KT.out.tch (by decide) (by decide))
        have HPH5 := hide (HPH2.out.keep HD2.out KT.out.tch (by decide) (by decide))
        go_wp2_with fail
        go_roundw
        case rel => exact ⟨k + 1, _, by omega, by go_num, KS.out.2, by rw [HTK2.out, HCF.out, HCT.out]; exact KS.out.1, HPD5.out, HPH5.out⟩
        case measure => simp [intOf]; omega)
    · have hke : k = n := by omega
      subst hke
      have HF : Hid (fs.take k = fs) := List.take_of_length_le (by rw [HN.out]; exact Nat.le_refl _)
      go_wp2
      go_ret2
      exact ⟨d', h', b', fv', rfl, hd', hh', HB.out, by have := HD.out; rwa [HF.out] at this, HPD.out, HPH.out⟩
end Go.Proofs.YtkncboinfcnklaaGreatDoor
