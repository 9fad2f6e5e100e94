import Derived.Test.YtdcnfgllghiedaaGreatDoorR4
namespace Go.Proofs.YtdcnfgllghiedaaGreatDoor
open Go.RowKit Go.Deep Go.Proofs.YtdcnfgllghiedaaGreatDoor.Mth

theorem isE_no {s t : Int} {x : ByteArray} (h : isE ⟨s, t, x⟩ = false) : s < 0 ∨ 1000000000000 < s ∨ t < 0 ∨ 1000000000000 < t ∨ 60 < x.size := by
  unfold isE at h
  simp only [Bool.and_eq_false_iff, decide_eq_false_iff_not] at h
  omega
theorem isE_yes {s t : Int} {x : ByteArray} (h : isE ⟨s, t, x⟩ = true) : 0 ≤ s ∧ s ≤ 1000000000000 ∧ 0 ≤ t ∧ t ≤ 1000000000000 ∧ x.size ≤ 60 := by
  unfold isE at h
  simp only [Bool.and_eq_true, decide_eq_true_iff] at h
  omega

set_option maxRecDepth 100000 in
set_option maxHeartbeats 4000000 in
theorem refIsSeg_core (a : Option Addr) (c : Nat) (l : List Ent) (w : World) (h : RdE w (.slice a l.length c) l) (h1 : 1 ≤ l.length) (h64 : l.length ≤ 64) (r : Bool) (hr : Hid (r = (List.range l.length).all (okAt l))) :
    Calls Tryz.prog 102 #[.slice a l.length c] w fun e w' => e = .returned (.bool r) ∧ Below w.heap.size w w' := by
  have HR := hide h
  clear h
  generalize hn : l.length = n at *
  have HN := hide hn
  clear hn
  have q1 : decide ((n : Int) < 1) = false := by simp; omega
  have q2 : decide ((64 : Int) < (n : Int)) = false := by simp; omega
  have q3 : ¬ (n : Int) < 1 := by omega
  have q4 : ¬ (64 : Int) < (n : Int) := by omega
  go_enter Tryz.func102, Tryz.ntmps102
  go_wp2_with fail
  clear q1 q2 q3 q4
  go_loopw [3] (fun i wr => ∃ k : Nat, k ≤ n ∧ i = .int .i64 k ∧ Below w.heap.size w wr ∧ (∀ i, i < k → okAt l i = true)) (fun i _ => n - (intOf i).toNat)
  case atStart => exact ⟨0, Nat.zero_le _, rfl, Below.refl _ _, fun i hi => absurd hi (Nat.not_lt_zero _)⟩
  case round =>
    obtain ⟨k, hk, rfl, hb, hall⟩ := hrel
    have HALL0 := hide hall
    clear hall
    by_cases hlt : k < n
    · have hrd := HR.out.below hb
      obtain ⟨b, o, rfl, hblt, c0, c1, c2⟩ := rdE_at hrd k (by rw [HN.out]; exact hlt)
      cases hE : isE (l.getD k e0) with
      | false =>
        have HOK : Hid (okAt l k = false) := by show _ = _; unfold okAt; rw [hE]; rfl
        generalize l.getD k e0 = e at *
        obtain ⟨s, t, x⟩ := e
        have hno := isE_no hE
        simp only at c0 c1 c2
        have HWB := hide (hb.trans ((below_alloc wr (Obj.cells #[Value.int IntKind.i64 s, Value.int IntKind.i64 t, Value.string x] 66)).mono hb.size))
        clear hrd hE hb
        rcases hno with hno | hno | hno | hno | hno
        all_goals (go_wp2; all_goals (go_ret; exact ⟨by rw [hr.out, all_false hlt HOK.out]; rfl, HWB.out⟩))
      | true =>
        by_cases hk0 : k = 0
        · subst hk0
          have HOK : Hid (okAt l 0 = true) := by show _ = _; unfold okAt; rw [hE]; simp
          generalize l.getD 0 e0 = e at *
          obtain ⟨s, t, x⟩ := e
          obtain ⟨y0, y1, y2, y3, y4⟩ := isE_yes hE
          simp only [Nat.zero_mul, Nat.add_zero] at c0 c1 c2
          clear hrd hE
          go_wp2_with fail
          have hWb := below_alloc wr (Obj.cells #[Value.int IntKind.i64 s, Value.int IntKind.i64 t, Value.string x] 66)
          have HWB := hide (hb.trans (hWb.mono hb.size))
          clear c0 c1 c2 hWb hb
          generalize (wr.alloc (Obj.cells #[Value.int IntKind.i64 s, Value.int IntKind.i64 t, Value.string x] 66)) = W at *
          generalize wr.heap.size = nb at *
          refine wp_region_quiet_below (by kernel_rfl) (by kernel_rfl) ?_
          repeat (go_big_quiet_step (fail))
          refine wpQuiet_nil ?_
          intro _ hw'
          obtain ⟨⟨dq, osq⟩, hw''⟩ := hw'
          subst hw''
          have HB1 := hide (below_regrown W dq osq)
          generalize Sort.grow (redrawn W dq) osq = w1 at *
          go_wp2
          go_roundw
          case rel => exact ⟨1, by omega, by go_num, HWB.out.trans (HB1.out.mono HWB.out.size), fun i hi => by have : i = 0 := (by omega); subst this; exact HOK.out⟩
          case measure => simp [intOf]; omega
        · have hrd' := hrd
          obtain ⟨b', o', e', _, d0, d1, d2⟩ := rdE_at hrd' (k - 1) (by rw [HN.out]; omega)
          injection e' with e'
          injection e' with e1 e2
          subst e1 e2
          have hok : Hid (okAt l k = fol (l.getD k e0) (l.getD (k - 1) e0)) := by show _ = _; unfold okAt; rw [hE]; simp [hk0]
          generalize l.getD k e0 = e at *
          generalize l.getD (k - 1) e0 = e' at *
          obtain ⟨s, t, x⟩ := e
          obtain ⟨s', t', x'⟩ := e'
          obtain ⟨y0, y1, y2, y3, y4⟩ := isE_yes hE
          simp only at c0 c1 c2 d0 d1 d2
          clear hrd hrd' hE
          have hbwr : b < wr.heap.size := hblt
          go_wp2_with fail
          have k0 : (wr.alloc (Obj.cells #[Value.int IntKind.i64 s, Value.int IntKind.i64 t, Value.string x] 66)).cell? ⟨wr.heap.size, 0, none⟩ = some (.int .i64 s) := by simp
          have k1 : (wr.alloc (Obj.cells #[Value.int IntKind.i64 s, Value.int IntKind.i64 t, Value.string x] 66)).cell? ⟨wr.heap.size, 1, none⟩ = some (.int .i64 t) := by simp
          have hWb := below_alloc wr (Obj.cells #[Value.int IntKind.i64 s, Value.int IntKind.i64 t, Value.string x] 66)
          have g0 := (hWb.cell (p := ⟨b, o + (k - 1) * 3, none⟩) hbwr).trans d0
          have g1 := (hWb.cell (p := ⟨b, o + (k - 1) * 3 + 1, none⟩) hbwr).trans d1
          clear d0 d1 d2
          have hkk : (0 : Int) < (k : Int) := by omega
          have hkk2 : decide (0 < k) = true := by simp; omega
          have HWB := hide (hb.trans (hWb.mono hb.size))
          clear c0 c1 c2 hWb hb
          generalize (wr.alloc (Obj.cells #[Value.int IntKind.i64 s, Value.int IntKind.i64 t, Value.string x] 66)) = W at *
          generalize wr.heap.size = nb at *
          have k0' := cell_regrown k0
          have k1' := cell_regrown k1
          have g0' := cell_regrown g0
          have g1' := cell_regrown g1
          clear hbwr hblt g0 g1
          by_cases hF1 : s' < s
          · have z1 : decide (s ≤ s') = false := by simp; omega
            have z2 : ¬ s ≤ s' := by omega
            by_cases hF2 : t' ≤ t
            · have z3 : decide (t < t') = false := by simp; omega
              have z4 : ¬ t < t' := by omega
              have HOK : Hid (okAt l k = true) := by rw [hok.out]; show _ = _; unfold fol; simp [hF1, hF2]
              clear hok
              refine wp_region_quiet_below (by kernel_rfl) (by kernel_rfl) ?_
              repeat (go_big_quiet_step (fail))
              refine wpQuiet_nil ?_
              intro _ hw'
              obtain ⟨⟨dq, osq⟩, hw''⟩ := hw'
              subst hw''
              have HB1 := hide (below_regrown W dq osq)
              clear k0' k1' g0' g1'
              generalize Sort.grow (redrawn W dq) osq = w1 at *
              go_wp2
              go_roundw
              case rel => exact ⟨k + 1, by omega, by go_num, HWB.out.trans (HB1.out.mono HWB.out.size), fun i hi => by by_cases c : i < k; exact HALL0.out i c; have : i = k := (by omega); subst this; exact HOK.out⟩
              case measure => simp [intOf]; omega
            · have z3 : decide (t < t') = true := by simp; omega
              have z4 : t < t' := by omega
              have HOK : Hid (okAt l k = false) := by rw [hok.out]; show _ = _; unfold fol; simp [hF2]
              clear hok
              refine wp_region_quiet_below (by kernel_rfl) (by kernel_rfl) ?_
              repeat (go_big_quiet_step (fail))
              refine wpQuiet_nil ?_
              intro _ hw'
              obtain ⟨⟨dq, osq⟩, hw''⟩ := hw'
              subst hw''
              have HB1 := hide (below_regrown W dq osq)
              clear k0' k1' g0' g1'
              generalize Sort.grow (redrawn W dq) osq = w1 at *
              go_wp2
              go_ret
              exact ⟨by rw [hr.out, all_false hlt HOK.out]; rfl, HWB.out.trans (HB1.out.mono HWB.out.size)⟩
          · have z1 : decide (s ≤ s') = true := by simp; omega
            have z2 : s ≤ s' := by omega
            have HOK : Hid (okAt l k = false) := by rw [hok.out]; show _ = _; unfold fol; simp [hF1]
            clear hok
            refine wp_region_quiet_below (by kernel_rfl) (by kernel_rfl) ?_
            repeat (go_big_quiet_step (fail))
            refine wpQuiet_nil ?_
            intro _ hw'
            obtain ⟨⟨dq, osq⟩, hw''⟩ := hw'
            subst hw''
            have HB1 := hide (below_regrown W dq osq)
            clear k0' k1' g0' g1'
            generalize Sort.grow (redrawn W dq) osq = w1 at *
            go_wp2
            go_ret
            exact ⟨by rw [hr.out, all_false hlt HOK.out]; rfl, HWB.out.trans (HB1.out.mono HWB.out.size)⟩
    · have HALL : Hid ((List.range n).all (okAt l) = true) := by
        show (List.range n).all (okAt l) = true
        rw [List.all_eq_true]
        intro i hi
        exact HALL0.out i (by have := List.mem_range.1 hi; omega)
      go_wp2
      go_ret
      exact ⟨by rw [hr.out, HALL.out]; rfl, hb⟩

/-- Is it a segment? -/
def segD (l : List Ent) : Bool := decide (l.length ≤ 64) && segB l
theorem segD_yes {l : List Ent} : segD l = true ↔ Seg l := by
  unfold segD
  constructor
  · intro h
    simp only [Bool.and_eq_true, decide_eq_true_iff] at h
    exact seg_of h.2 h.1
  · intro h
    simp only [Bool.and_eq_true, decide_eq_true_iff]
    exact ⟨h.2.1, segB_of h⟩

set_option maxHeartbeats 400000 in
theorem refIsSeg_zero (a : Option Addr) (c : Nat) (w : World) : Calls Tryz.prog 102 #[.slice a 0 c] w fun e w' => e = .returned (.bool false) ∧ Below w.heap.size w w' := by
  go_enter Tryz.func102, Tryz.ntmps102
  go_wp2
  go_ret
  exact ⟨rfl, Below.refl _ _⟩

set_option maxHeartbeats 400000 in
theorem refIsSeg_big (a : Option Addr) (n c : Nat) (w : World) (h : 64 < n) : Calls Tryz.prog 102 #[.slice a n c] w fun e w' => e = .returned (.bool false) ∧ Below w.heap.size w w' := by
  have q3 : ¬ (n : Int) < 1 := by omega
  have q4 : (64 : Int) < (n : Int) := by omega
  go_enter Tryz.func102, Tryz.ntmps102
  go_wp2
  go_ret
  exact ⟨rfl, Below.refl _ _⟩

set_option maxHeartbeats 400000 in
theorem isSeg_big (a : Option Addr) (n c : Nat) (w : World) (h : 64 < n) : Calls Tryz.prog 190 #[.slice a n c] w fun e w' => e = .returned (.bool false) ∧ Below w.heap.size w w' := by
  have q3 : ¬ (n : Int) < 1 := by omega
  have q4 : (64 : Int) < (n : Int) := by omega
  go_enter Tryz.func190, Tryz.ntmps190
  go_wp2
  go_ret
  exact ⟨rfl, Below.refl _ _⟩

theorem refIsSeg_any (v : Value) (l : List Ent) (w : World) (h : RdE w v l) : Calls Tryz.prog 102 #[v] w fun e w' => e = .returned (.bool (segD l)) ∧ Below w.heap.size w w' := by
  obtain ⟨a, c, rfl, _, _⟩ := rdE_len h
  by_cases h64 : l.length ≤ 64
  · by_cases h1 : 1 ≤ l.length
    · refine refIsSeg_core a c l w h h1 h64 (segD l) ?_
      show segD l = _
      unfold segD segB
      simp only [h1, h64, decide_true, Bool.true_and]
    · have : l = [] := List.length_eq_zero_iff.1 (by omega)
      subst this
      exact refIsSeg_zero a c w
  · have : segD l = false := by unfold segD; simp [h64]
    rw [this]
    exact refIsSeg_big a _ c w (by omega)

theorem isSeg_all (v : Value) (l : List Ent) (w : World) (h : RdE w v l) : Calls Tryz.prog 190 #[v] w fun e w' => e = .returned (.bool (segD l)) ∧ Below w.heap.size w w' := by
  by_cases h64 : l.length ≤ 64
  · have : segD l = segB l := by unfold segD; simp [h64]
    rw [this]
    exact isSeg_any v l w h h64
  · obtain ⟨a, c, rfl, _, _⟩ := rdE_len h
    have : segD l = false := by unfold segD; simp [h64]
    rw [this]
    exact isSeg_big a _ c w (by omega)

set_option maxHeartbeats 400000 in
theorem pack_not (v : Value) (l : List Ent) (w : World) (h : RdE w v l) (hS : ¬ Seg l) :
    Calls Tryz.prog 113 #[v] w fun e w' => e = .returned (.tuple #[.slice none 0 0, .int .i64 2]) ∧ Below w.heap.size w w' := by
  have CI := hide (isSeg_all v l w h)
  rw [show segD l = false from Bool.eq_false_iff.2 (fun q => hS (segD_yes.1 q))] at CI
  clear h hS
  go_enter Tryz.func113, Tryz.ntmps113
  go_wp2_with fail
  refine CI.out.mono ?_
  rintro e w1 ⟨rfl, hb1⟩
  have HB := hide hb1
  clear hb1 CI
  go_wp2
  go_ret2
  exact ⟨rfl, HB.out⟩
end Go.Proofs.YtdcnfgllghiedaaGreatDoor
