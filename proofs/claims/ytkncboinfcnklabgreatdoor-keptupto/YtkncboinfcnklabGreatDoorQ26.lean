import Derived.Test.YtkncboinfcnklabGreatDoorQ25
import Derived.Test.YtkncboinfcnklabGreatDoorQ13
import Derived.Test.YtkncboinfcnklabGreatDoorQ21
namespace Go.Proofs.YtkncboinfcnklabGreatDoor
open Go.RowKit Go.Deep Go.Shelf Go.Proofs.YtkncboinfcnklabGreatDoor.Mth

/-- What a call leaves that could not make its record safe. -/
structure ApdN (w w' : World) (ρ : Nat → Nat) (B N lb : Nat) (G : Gh) (L : Lg) (dt : ByteArray) : Prop where
  ex : ∃ ρ' G', LogAt w' ρ' B N lb G' L ∧ LStp w w' ρ ρ' ∧ GSame G G' ∧ G'.dt = dt ∧ G'.left = 0 ∧ G'.sf = G.sf
theorem ApdN.below {w w1 w2 : World} {ρ : Nat → Nat} {B N lb : Nat} {G : Gh} {L : Lg} {dt : ByteArray} (h : ApdN w w1 ρ B N lb G L dt) (hb : Below w1.heap.size w1 w2) : ApdN w w2 ρ B N lb G L dt := by
  obtain ⟨⟨ρ', G', a1, a2, a3⟩⟩ := h
  exact ⟨⟨ρ', G', a1.below hb, a2.below hb, a3⟩⟩

set_option maxRecDepth 100000 in
set_option maxHeartbeats 2000000 in
theorem tick_down {w : World} {ρ : Nat → Nat} {B N lb : Nat} {G : Gh} {L : Lg} (h : LogAt w ρ B N lb G L) (ht : Tab10 w) (n : Nat) (hc : L.clock ≤ 1000000000000) (hn : canTick L.clock (n : Int) = true) (Q : World → Prop) (hw : ∀ W, Below w.heap.size w W → Calls Tryz.prog 90 #[.pointer (some ⟨G.jb, 0, none⟩), .int .u8 1, .string (itoaB (n : Int))] W fun e w' => e = .returned (.bool false) ∧ Q w') :
    Calls Tryz.prog 43 #[ptrV lb, .int .i64 (n : Int)] w fun e w' => e = .returned (.int .i64 3) ∧ Q w' := by
  have CC := hide (jCan_any h.x.j.j (n : Int) hc)
  have hn1 : n ≤ 1000 := by
    unfold canTick at hn
    simp at hn
    omega
  rw [hn] at CC
  have CT := hide (jTick_down n (by omega) ht Q hw)
  obtain ⟨c6, _⟩ := cell_of (j := 6) (u := ptrV G.jb) h.x.b.blk rfl
  clear h hn ht hw
  go_enter Tryz.func43, Tryz.ntmps43
  go_wp2_with (first
    | (go_at_call 70; refine CC.out.mono ?_; rintro e w2 ⟨rfl, hw⟩; rw [hw]; clear hw w2)
    | (go_at_call 71; refine CT.out.mono ?_; rintro e w3 ⟨rfl, ha⟩; have HA := hide ha; clear ha))
  go_ret
  exact ⟨rfl, HA.out⟩
theorem tick_down0 {w : World} {ρ : Nat → Nat} {B N lb : Nat} {G : Gh} {L : Lg} (h : LogAt w ρ B N lb G L) (ht : Tab10 w) (n : Nat) (hc : L.clock ≤ 1000000000000) (hn : canTick L.clock (n : Int) = true) (hl : G.left = 0) :
    Calls Tryz.prog 43 #[ptrV lb, .int .i64 (n : Int)] w fun e w' => e = .returned (.int .i64 3) ∧ Below w.heap.size w w' := by
  refine tick_down h ht n hc hn (fun w' => Below w.heap.size w w') (fun W hb => ?_)
  have hn1 : n ≤ 1000 := by
    unfold canTick at hn
    simp at hn
    omega
  have hit := itoaB_size (n : Int) (by omega) (by omega)
  have hj := (h.below hb).x.j.j
  rw [hl] at hj
  refine (jWrite_no0 hj 1 (by omega) (by omega) (itoaB (n : Int)) (by omega)).mono ?_
  rintro e w' ⟨rfl, hb'⟩
  exact ⟨rfl, hb.trans (hb'.mono hb.size)⟩
theorem tick_down1 {w : World} {ρ : Nat → Nat} {B N lb : Nat} {G : Gh} {L : Lg} (h : LogAt w ρ B N lb G L) (hB : B ≤ w.heap.size) (ht : Tab10 w) (n : Nat) (hc : L.clock ≤ 1000000000000) (hn : canTick L.clock (n : Int) = true) (hl : G.left = 1) (hd : G.dt.size ≤ 1099511627776) :
    Calls Tryz.prog 43 #[ptrV lb, .int .i64 (n : Int)] w fun e w' => e = .returned (.int .i64 3) ∧ ApdN w w' ρ B N lb G L (G.dt ++ recB 1 (itoaB (n : Int))) := by
  refine tick_down h ht n hc hn (fun w' => ApdN w w' ρ B N lb G L (G.dt ++ recB 1 (itoaB (n : Int)))) (fun W hb => ?_)
  have hn1 : n ≤ 1000 := by
    unfold canTick at hn
    simp at hn
    omega
  have hit := itoaB_size (n : Int) (by omega) (by omega)
  have h1 := h.below hb
  have hj := h1.x.j.j
  rw [hl] at hj
  refine (jWrite_no1 hj (Nat.le_trans hB hb.size) 1 (by omega) (by omega) (itoaB (n : Int)) (by omega) hd).mono ?_
  rintro e w' ⟨rfl, fv', hs⟩
  obtain ⟨ρ2, r1, r2⟩ := h1.jStep (Nat.le_trans hB hb.size) hs
  exact ⟨rfl, ⟨⟨ρ2, _, r1, LStp.pre hb r2, ⟨rfl, rfl, rfl⟩, rfl, rfl, rfl⟩⟩⟩
end Go.Proofs.YtkncboinfcnklabGreatDoor

namespace Go.Proofs.YtkncboinfcnklabGreatDoor
open Go.RowKit Go.Deep Go.Shelf Go.Proofs.YtkncboinfcnklabGreatDoor.Mth

set_option maxRecDepth 100000 in
set_option maxHeartbeats 4000000 in
theorem jLay_no1 {w : World} {B jb db sb : Nat} {dt : ByteArray} {sf : Nat} {fv : Value} {clock count : Nat} (h : JAt w B jb db sb (jf dt sf) 1 fv clock count) (hB : B ≤ w.heap.size) (s : ByteArray) (hs : s.size ≤ 60) (hd : dt.size ≤ 1099511627776) :
    Calls Tryz.prog 66 #[.pointer (some ⟨jb, 0, none⟩), .string s] w fun e w' => e = .returned (.tuple #[.agg #[.int .i64 0, .int .i64 0, .string ⟨#[]⟩], .bool false]) ∧ ∃ fv', JStp w w' B jb db sb fv (jf (dt ++ recB 0 s) sf) 0 fv' clock count := by
  have hsz : (Tryz.prog.info? 49).map (·.size) = some 3 := by
    have := Tryz.info49
    cases h' : Tryz.prog.info? 49 with
    | none => rw [h'] at this; cases this
    | some i => rw [h'] at this; simp at this; simp [this]
  obtain ⟨W1, hW1⟩ : ∃ W1, W1 = w.alloc (Obj.cells #[.int .i64 0, .int .i64 0, .string ⟨#[]⟩] 49) := ⟨_, rfl⟩
  have HB1 : Hid (Below w.heap.size w W1) := by rw [hW1]; exact below_allocG w _
  have HBK : Hid (W1.heap[w.heap.size]? = some (Obj.cells #[.int .i64 0, .int .i64 0, .string ⟨#[]⟩] 49 (0, 0))) := by rw [hW1]; exact new_blk w _ _
  have CW := hide (jWrite_no1 (h.below HB1.out) (Nat.le_trans hB HB1.out.size) 0 (by omega) (by omega) s (by omega) hd)
  have HJ0 := hide h
  have HW1 := hide hW1
  have hjb : jb < w.heap.size := (Array.getElem?_eq_some_iff.1 h.blk).1
  clear h hd hW1
  generalize dt ++ recB 0 s = dd at *
  go_enter Tryz.func66, Tryz.ntmps66
  go_wp2_with fail
  rw [← HW1.out]
  refine CW.out.mono ?_
  rintro e w2 ⟨rfl, fv2, hj2⟩
  have HJ2 := hide (JStp.pre HB1.out hj2)
  have hkw : w2.heap[w.heap.size]? = some (Obj.cells #[.int .i64 0, .int .i64 0, .string ⟨#[]⟩] 49 (0, 0)) := by
    refine (hj2.tch.block w.heap.size (Array.getElem?_eq_some_iff.1 HBK.out).1 (fun q => ?_)).trans HBK.out
    have := (HJ0.out.ownLt q).1
    omega
  clear hj2 CW HBK HW1 HJ0 HB1
  obtain ⟨z0, y0⟩ := cell_of (j := 0) (u := .int .i64 0) hkw rfl
  obtain ⟨z1, y1⟩ := cell_of (j := 1) (u := .int .i64 0) hkw rfl
  obtain ⟨z2, y2⟩ := cell_of (j := 2) (u := .string ⟨#[]⟩) hkw rfl
  have hfin : (((w2.setCell ⟨w.heap.size, 0, none⟩ (.int .i64 0)).setCell ⟨w.heap.size, 1, none⟩ (.int .i64 0)).setCell ⟨w.heap.size, 2, none⟩ (.string ⟨#[]⟩)).heap[w.heap.size]? = some (Obj.cells #[.int .i64 0, .int .i64 0, .string ⟨#[]⟩] 49 (0, 0)) := setCell_blk (setCell_blk (setCell_blk hkw))
  have HJ7 : Hid (JStp w (((w2.setCell ⟨w.heap.size, 0, none⟩ (.int .i64 0)).setCell ⟨w.heap.size, 1, none⟩ (.int .i64 0)).setCell ⟨w.heap.size, 2, none⟩ (.string ⟨#[]⟩)) B jb db sb fv (jf dd sf) 0 fv2 clock count) := by
    have hoth : ∀ g, g ≠ w.heap.size → (((w2.setCell ⟨w.heap.size, 0, none⟩ (.int .i64 0)).setCell ⟨w.heap.size, 1, none⟩ (.int .i64 0)).setCell ⟨w.heap.size, 2, none⟩ (.string ⟨#[]⟩)).heap[g]? = w2.heap[g]? := fun g hg => by rw [set_other hg, set_other hg, set_other hg]
    refine ⟨HJ2.out.j.same (fun g hg => hoth g (fun q => ?_)), ⟨HJ2.out.tch.os, HJ2.out.tch.tape, HJ2.out.tch.output, by have := HJ2.out.tch.size; simpa using this, fun k hk hn => (hoth k (by omega)).trans (HJ2.out.tch.block k hk hn)⟩, HJ2.out.new⟩
    subst q
    rcases hg with q | q | q | q
    · omega
    · have := HJ2.out.j.ptr
      rw [← q, Ptr, hkw] at this
      injection this with this
      injection this with _ this _
      exact absurd this (by decide)
    · have := HJ2.out.j.st.blk
      rw [← q, hkw] at this
      injection this with this
      injection this with _ this _
      exact absurd this (by decide)
    · obtain ⟨_, _, D, hD⟩ := own_block HJ2.out.j.st.own q
      rw [hkw] at hD
      injection hD with hD
      injection hD with _ hD _
      exact absurd hD (by decide)
  have hld := run_loadVar_row (P := Tryz.prog) _ w.heap.size 49 49 _ _ _ hfin Tryz.underlying49 rfl hsz
  have HLD := hide hld
  clear hld hfin HJ2 hkw
  go_wp2_with fail
  (try simp only [Exit.inBlock, Exit.then])
  refine bodyPost_ret (v := .tuple #[.agg #[.int .i64 0, .int .i64 0, .string ⟨#[]⟩], .bool false]) ?_ rfl ⟨rfl, fv2, HJ7.out⟩
  have hld := HLD.out
  rw [results_cell_tmp rfl]
  simp [asAddr, Result.andThen, hld]

set_option maxRecDepth 100000 in
set_option maxHeartbeats 4000000 in
theorem append_down1 {w : World} {ρ : Nat → Nat} {B N lb : Nat} {G : Gh} {L : Lg} (h : LogAt w ρ B N lb G L) (hB : B ≤ w.heap.size) (s : ByteArray) (q1 : G.left = 1) (hs : s.size ≤ 60) (hn : ¬ (L.memory ≤ L.mem.length ∧ L.fan + L.back ≤ (L.lev 0).length)) (hfan : L.fan ≤ 4) (hback : L.back ≤ 4) (hlv : (L.lev 0).length ≤ 4000000) (hd : G.dt.size ≤ 1099511627776) :
    Calls Tryz.prog 40 #[ptrV lb, .string s] w fun e w' => e = .returned (.tuple #[.int .i64 0, .int .i64 3]) ∧ ApdN w w' ρ B N lb G L (G.dt ++ recB 0 s) := by
  have CS := hide (jStopped_any h.x.j.j)
  rw [q1, show ((1 : Int) == 0) = false from rfl] at CS
  obtain ⟨c6, _⟩ := cell_of (j := 6) (u := ptrV G.jb) h.x.b.blk rfl
  obtain ⟨c1, _⟩ := cell_of (j := 1) (u := .int .i64 (L.fan : Int)) h.x.b.blk rfl
  obtain ⟨c2, _⟩ := cell_of (j := 2) (u := .int .i64 (L.back : Int)) h.x.b.blk rfl
  obtain ⟨a0, k0, hlr, hc0, hm0⟩ := own_slice (h.x.v.row 0 (by omega))
  obtain ⟨c8, _⟩ := cell_of (j := 8) (u := G.lr 0) h.x.b.blk rfl
  rw [hlr, h.x.v.len 0 (by omega)] at c8
  have CF : Hid (∀ d os, _) := fun d os => Calls.regrown_of (w := w) (d := d) (os := os) ((isFull_any (h.below (below_regrown w d os))).mono fun e w' q => ⟨q.1, q.2⟩)
  have e1 := cell_regrown c1
  have e2 := cell_regrown c2
  have e8 := cell_regrown c8
  have CL : Hid (∀ w1, Below w.heap.size w w1 → w1.cell? ⟨lb, 6, none⟩ = some (ptrV G.jb) ∧ Calls Tryz.prog 66 #[ptrV G.jb, .string s] w1 fun e w2 => e = .returned (.tuple #[.agg #[.int .i64 0, .int .i64 0, .string ⟨#[]⟩], .bool false]) ∧ ApdN w w2 ρ B N lb G L (G.dt ++ recB 0 s)) := by
    intro w1 hb1
    have h1 := h.below hb1
    have hj := h1.x.j.j
    rw [q1] at hj
    refine ⟨(cell_of (j := 6) h1.x.b.blk rfl).1, (jLay_no1 hj (Nat.le_trans hB hb1.size) s hs hd).mono ?_⟩
    rintro e w2 ⟨rfl, fv', hj'⟩
    obtain ⟨ρ2, r1, r2⟩ := h1.jStep (Nat.le_trans hB hb1.size) hj'
    exact ⟨rfl, ⟨⟨ρ2, _, r1, LStp.pre hb1 r2, ⟨rfl, rfl, rfl⟩, rfl, rfl, rfl⟩⟩⟩
  have h60 : ¬ (60 : Int) < (s.size : Int) := by omega
  clear h q1 hd c1 c2 c8 hlr hc0 hm0
  generalize (L.lev 0).length = nl at *
  generalize L.fan = fan at *
  generalize L.back = back at *
  cases hf : decide (L.memory ≤ L.mem.length) with
  | true =>
    rw [hf] at CF
    have hd2 : ¬ (fan : Int) + (back : Int) ≤ (nl : Int) := fun q => hn ⟨of_decide_eq_true hf, by omega⟩
    have hd3 : decide ((fan : Int) + (back : Int) ≤ (nl : Int)) = false := decide_eq_false hd2
    clear hf hn
    go_enter Tryz.func40, Tryz.ntmps40
    go_wp2_with (first | (go_at_call 64; refine CS.out.mono ?_; rintro e w2 ⟨rfl, hw⟩; rw [hw]; clear hw w2))
    refine wp_region_quiet_below (by kernel_rfl) (by kernel_rfl) ?_
    repeat (go_big_quiet_step (first | (go_at_call 65; exact CF.out _ _)))
    refine wpQuiet_nil ?_
    intro _ hw'
    obtain ⟨⟨dq, osq⟩, hw''⟩ := hw'
    subst hw''
    obtain ⟨d6, hlay⟩ := CL.out _ (below_regrown w dq osq)
    generalize Sort.grow (redrawn w dq) osq = w1 at *
    have HLAY := hide hlay
    clear hlay CL CF e1 e2 e8 CS hd2 hd3
    go_wp2_with fail
    refine HLAY.out.mono ?_
    rintro e w2 ⟨rfl, hx⟩
    have HX := hide hx
    clear hx HLAY
    go_wp2_with fail
    go_ret2
    exact ⟨rfl, HX.out.below (below_allocG _ _)⟩
  | false =>
    rw [hf] at CF
    clear hf hn
    go_enter Tryz.func40, Tryz.ntmps40
    go_wp2_with (first | (go_at_call 64; refine CS.out.mono ?_; rintro e w2 ⟨rfl, hw⟩; rw [hw]; clear hw w2))
    refine wp_region_quiet_below (by kernel_rfl) (by kernel_rfl) ?_
    repeat (go_big_quiet_step (first | (go_at_call 65; exact CF.out _ _)))
    refine wpQuiet_nil ?_
    intro _ hw'
    obtain ⟨⟨dq, osq⟩, hw''⟩ := hw'
    subst hw''
    obtain ⟨d6, hlay⟩ := CL.out _ (below_regrown w dq osq)
    generalize Sort.grow (redrawn w dq) osq = w1 at *
    have HLAY := hide hlay
    clear hlay CL CF e1 e2 e8 CS
    go_wp2_with fail
    refine HLAY.out.mono ?_
    rintro e w2 ⟨rfl, hx⟩
    have HX := hide hx
    clear hx HLAY
    go_wp2_with fail
    go_ret2
    exact ⟨rfl, HX.out.below (below_allocG _ _)⟩
end Go.Proofs.YtkncboinfcnklabGreatDoor

namespace Go.Proofs.YtkncboinfcnklabGreatDoor
open Go.RowKit Go.Deep Go.Shelf Go.Proofs.YtkncboinfcnklabGreatDoor.Mth

set_option maxHeartbeats 1000000 in
theorem LogAt.made3 {w : World} {B lb jb db sb ms mm tm : Nat} {fv me wr : Value} {wbs : List Nat} {m f bk kp bt : Nat} {dt : ByteArray} {sf : Nat} {left : Int} {clock count : Nat}
    (hb : w.heap[lb]? = some (Obj.cells #[.int .i64 (m : Int), .int .i64 (f : Int), .int .i64 (bk : Int), .int .i64 (wbs.length : Int), .int .i64 (kp : Int), .int .i64 (bt : Int), ptrV jb, ptrV ms, .slice none 0 0, .slice none 0 0, .slice none 0 0, .slice none 0 0, .slice none 0 0, .slice none 0 0, wr, .map (some tm), .int .i64 0] 78 (0, 0)))
    (hj : JAt w B jb db sb (jf dt sf) left fv clock count) (hm : SegAt w B ms [] me mm) (ht : TlsAt w tm 0 (fun _ => none) 0) (hr : w.ownsRow B 93 1 wr wbs.length (wbs.map ptrV))
    (hw : ∀ i, i < wbs.length → w.heap[wbs.getD i 0]? = some (Obj.cells (wkC lb (wbs.getD i 0) wk0 (.slice none 0 0)) 110 (0, 0))) (hge : ∀ i, i < wbs.length → B ≤ wbs.getD i 0) (hlt : wbs.Pairwise (fun a b => a < b)) (hn : 0 < wbs.length ∧ wbs.length ≤ 4) (g1 : B ≤ lb) (g2 : B ≤ tm) (hne : tm ≠ mm) :
    ∃ ρ G, LogAt w ρ B 0 lb G { Lg.new m f bk wbs.length kp bt with clock := clock, count := count } ∧ (G.left = left ∧ G.dt = dt ∧ G.sf = sf ∧ G.sb = sb) ∧ ∀ k, ρ k ≠ 0 → k = lb ∨ ownJ jb db sb fv k ∨ ownS ms mm me k ∨ k = tm ∨ some k = wr.ownBlock ∨ k ∈ wbs := by
  classical
  have htm : ∃ es c, w.heap[tm]? = some (Obj.map es c) := by
    obtain ⟨D, n, ⟨es, c, hb', _⟩, _⟩ := ht
    exact ⟨es, c, hb'⟩
  obtain ⟨tes, tc, htb⟩ := htm
  have jlb : ¬ ownJ jb db sb fv lb := fun q => by
    obtain ⟨C, t, fr, h1, h2⟩ := hj.ty q
    have := cells_ty hb h1
    subst this
    rcases h2 with h2 | h2 | h2 | h2 <;> exact absurd h2 (by decide)
  have slb : ¬ ownS ms mm me lb := fun q => by
    rcases hm.ty q with ⟨C, t, fr, h1, h2⟩ | ⟨_, es, c, h1⟩
    · have := cells_ty hb h1
      subst this
      rcases h2 with h2 | h2 <;> exact absurd h2 (by decide)
    · rw [hb] at h1; cases h1
  have sj : ∀ k, ownS ms mm me k → ¬ ownJ jb db sb fv k := fun k q1 q2 => by
    obtain ⟨C, t, fr, h1, h2⟩ := hj.ty q2
    rcases hm.ty q1 with ⟨C', t', fr', h3, h4⟩ | ⟨_, es, c, h3⟩
    · have := cells_ty h1 h3
      subst this
      rcases h2 with rfl | rfl | rfl | rfl <;> rcases h4 with h4 | h4 <;> exact absurd h4 (by decide)
    · rw [h1] at h3; cases h3
  have tlb : tm ≠ lb := fun e => by rw [e, hb] at htb; cases htb
  have tj : ¬ ownJ jb db sb fv tm := fun q => by
    obtain ⟨C, t, fr, h1, _⟩ := hj.ty q
    rw [htb] at h1; cases h1
  have ts : ¬ ownS ms mm me tm := fun q => by
    rcases hm.ty q with ⟨C, t, fr, h1, _⟩ | ⟨e, _⟩
    · rw [htb] at h1; cases h1
    · exact hne e
  have rty : ∀ g, some g = wr.ownBlock → ∃ D, w.heap[g]? = some (Obj.cells D 93 (0, 0)) := fun g q => by
    obtain ⟨_, _, D, hD⟩ := own_block hr q
    exact ⟨D, hD⟩
  have wty : ∀ g, g ∈ wbs → ∃ D, w.heap[g]? = some (Obj.cells D 110 (0, 0)) := fun g q => by
    obtain ⟨i, hi, rfl⟩ := List.getElem_of_mem q
    have := hw i hi
    rw [← List.getElem_eq_getD (h := hi)] at this
    exact ⟨_, this⟩
  have far : ∀ g D (t : TypeId), w.heap[g]? = some (Obj.cells D t (0, 0)) → (t = 93 ∨ t = 110) → g ≠ lb ∧ ¬ ownJ jb db sb fv g ∧ ¬ ownS ms mm me g ∧ g ≠ tm := by
    intro g D t hg htt
    refine ⟨fun e => ?_, fun q => ?_, fun q => ?_, fun e => by rw [e, htb] at hg; cases hg⟩
    · rw [e] at hg
      have := cells_ty hb hg
      subst this
      rcases htt with h2 | h2 <;> exact absurd h2 (by decide)
    · obtain ⟨C, t', fr, h1, h2⟩ := hj.ty q
      have := cells_ty hg h1
      subst this
      rcases htt with rfl | rfl <;> rcases h2 with h2 | h2 | h2 | h2 <;> exact absurd h2 (by decide)
    · rcases hm.ty q with ⟨C, t', fr, h1, h2⟩ | ⟨_, es, c, h1⟩
      · have := cells_ty hg h1
        subst this
        rcases htt with rfl | rfl <;> rcases h2 with h2 | h2 <;> exact absurd h2 (by decide)
      · rw [hg] at h1; cases h1
  have ρdef : ∀ k, rho0 lb jb db sb ms mm tm fv me wr wbs k = if k = lb then 1 else if ownJ jb db sb fv k then 2 else if ownS ms mm me k then 3 else if k = tm then 6 else if some k = wr.ownBlock then 5 else if k ∈ wbs then 20 + wbs.idxOf k else 0 := fun k => by
    unfold rho0
    congr
  obtain ⟨ρ, hρ⟩ : ∃ ρ, ρ = rho0 lb jb db sb ms mm tm fv me wr wbs := ⟨_, rfl⟩
  rw [← hρ] at ρdef
  have r1 : ρ lb = 1 := by rw [ρdef, if_pos rfl]
  have r2 : ∀ k, ownJ jb db sb fv k → ρ k = 2 := fun k q => by
    have h1 : ¬ k = lb := fun e => by rw [e] at q; exact jlb q
    rw [ρdef, if_neg h1, if_pos q]
  have r3 : ∀ k, ownS ms mm me k → ρ k = 3 := fun k q => by
    have h1 : ¬ k = lb := fun e => by rw [e] at q; exact slb q
    rw [ρdef, if_neg h1, if_neg (sj k q), if_pos q]
  have r6 : ρ tm = 6 := by rw [ρdef, if_neg tlb, if_neg tj, if_neg ts, if_pos rfl]
  have r5 : ∀ g, some g = wr.ownBlock → ρ g = 5 := fun g q => by
    obtain ⟨D, hD⟩ := rty g q
    obtain ⟨a1, a2, a3, a4⟩ := far g D _ hD (Or.inl rfl)
    rw [ρdef, if_neg a1, if_neg a2, if_neg a3, if_neg a4, if_pos q]
  have rw' : ∀ i, i < wbs.length → ρ (wbs.getD i 0) = 20 + i := fun i hi => by
    have hmem : wbs.getD i 0 ∈ wbs := by rw [← List.getElem_eq_getD (h := hi)]; exact List.getElem_mem hi
    obtain ⟨D, hD⟩ := wty _ hmem
    obtain ⟨a1, a2, a3, a4⟩ := far _ D _ hD (Or.inr rfl)
    rw [ρdef, if_neg a1, if_neg a2, if_neg a3, if_neg a4, if_neg, if_pos hmem]
    · congr 1
      rw [← List.getElem_eq_getD (h := hi)]
      have hnd : wbs.Nodup := hlt.imp (fun h e => by omega)
      exact hnd.idxOf_getElem i hi
    · intro q
      obtain ⟨D', hD'⟩ := rty _ q
      exact absurd (cells_ty hD hD') (by decide)
  have rlt : ∀ k, ρ k ≠ 0 → k < w.heap.size ∧ B ≤ k := by
    intro k hk
    rw [ρdef] at hk
    by_cases e1 : k = lb
    · subst e1; exact ⟨(Array.getElem?_eq_some_iff.1 hb).1, g1⟩
    · rw [if_neg e1] at hk
      by_cases e2 : ownJ jb db sb fv k
      · have := hj.ownLt e2; exact ⟨this.1, this.2.1⟩
      · rw [if_neg e2] at hk
        by_cases e3 : ownS ms mm me k
        · have := hm.ownLt e3; exact ⟨this.1, this.2.1⟩
        · rw [if_neg e3] at hk
          by_cases e4 : k = tm
          · subst e4; exact ⟨(Array.getElem?_eq_some_iff.1 htb).1, g2⟩
          · rw [if_neg e4] at hk
            by_cases e5 : some k = wr.ownBlock
            · have := own_block hr e5; exact ⟨this.2.1, this.1⟩
            · rw [if_neg e5] at hk
              by_cases e6 : k ∈ wbs
              · obtain ⟨i, hi, e⟩ := List.getElem_of_mem e6
                have h1 := hw i hi
                have h2 := hge i hi
                rw [← List.getElem_eq_getD (h := hi), e] at h1 h2
                exact ⟨(Array.getElem?_eq_some_iff.1 h1).1, h2⟩
              · rw [if_neg e6] at hk
                exact absurd rfl hk
  have hwk : ∀ i, i < wbs.length → (List.replicate wbs.length wk0).getD i wk0 = wk0 := fun i hi => by simp [List.getD, hi]
  refine ⟨ρ, ⟨jb, db, sb, fv, dt, sf, left, ms, mm, me, fun _ => .slice none 0 0, fun _ => [], fun _ => .slice none 0 0, fun _ => 0, wr, wbs, fun _ => .slice none 0 0, tm⟩, ⟨⟨⟨?_, r1⟩, ⟨hj, r2⟩, ⟨fun i _ => World.ownsRow_nil _ _ _ _, fun i _ => rfl, (fun i _ j hj' => absurd hj' (by simp)), (fun i _ g q => by cases q), (fun i _ j hj' => absurd hj' (by simp))⟩, ⟨hr, by simp [Lg.new], ?_, ?_, ?_, by simpa [Lg.new] using hn, ?_, r5, ?_, (fun i _ g q => by cases q)⟩, ⟨ht, r6, g2⟩, rlt⟩, ⟨hm, r3⟩⟩, ⟨rfl, rfl, rfl, rfl⟩, ?_⟩
  · simpa [lgC, Lg.new] using hb
  · intro i hi
    simp only [Lg.new, List.length_replicate] at hi ⊢
    rw [hwk i hi]
    exact hw i hi
  · intro i hi
    simp only [Lg.new, List.length_replicate] at hi ⊢
    rw [hwk i hi]
    exact World.ownsRow_nil _ _ _ _
  · intro i hi
    simp only [Lg.new, List.length_replicate] at hi ⊢
    rw [hwk i hi]
    exact ⟨⟨(fun y hy => by cases hy), (fun y hy => by cases hy)⟩, List.nodup_nil⟩
  · intro i hi
    simp only [Lg.new, List.length_replicate] at hi
    exact hge i hi
  · intro i hi
    simp only [Lg.new, List.length_replicate] at hi
    exact rw' i hi
  · intro k hk
    rw [ρdef] at hk
    by_cases e1 : k = lb
    · exact Or.inl e1
    · rw [if_neg e1] at hk
      by_cases e2 : ownJ jb db sb fv k
      · exact Or.inr (Or.inl e2)
      · rw [if_neg e2] at hk
        by_cases e3 : ownS ms mm me k
        · exact Or.inr (Or.inr (Or.inl e3))
        · rw [if_neg e3] at hk
          by_cases e4 : k = tm
          · exact Or.inr (Or.inr (Or.inr (Or.inl e4)))
          · rw [if_neg e4] at hk
            by_cases e5 : some k = wr.ownBlock
            · exact Or.inr (Or.inr (Or.inr (Or.inr (Or.inl e5))))
            · rw [if_neg e5] at hk
              by_cases e6 : k ∈ wbs
              · exact Or.inr (Or.inr (Or.inr (Or.inr (Or.inr e6))))
              · rw [if_neg e6] at hk
                exact absurd rfl hk
end Go.Proofs.YtkncboinfcnklabGreatDoor
