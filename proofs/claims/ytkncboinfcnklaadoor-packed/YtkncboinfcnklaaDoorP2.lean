import Derived.Test.YtkncboinfcnklaaDoorP1
import Derived.Lib.QuietBelow
namespace Go.Proofs.YtkncboinfcnklaaDoor
open Go.RowKit Go.Deep Go.Proofs.YtkncboinfcnklaaDoor.Mth

/-- A slice whose elements read as these entries. -/
def RdE (w : World) (v : Value) (l : List Ent) : Prop :=
  ∃ (a : Option Addr) (c : Nat), v = .slice a l.length c ∧ l.length ≤ c ∧ c ≤ maxLen ∧ (l = [] ∨ ∃ b o, a = some ⟨b, o, none⟩ ∧ ∀ j, j < l.length → w.cell? ⟨b, o + j * 3, none⟩ = some (.int .i64 (l.getD j e0).seq) ∧ w.cell? ⟨b, o + j * 3 + 1, none⟩ = some (.int .i64 (l.getD j e0).time) ∧ w.cell? ⟨b, o + j * 3 + 2, none⟩ = some (.string (l.getD j e0).text))

theorem RdE.below {w w' : World} {v : Value} {l : List Ent} (h : RdE w v l) (hb : Below w.heap.size w w') : RdE w' v l := by
  obtain ⟨a, c, rfl, hc, hm, h⟩ := h
  refine ⟨a, c, rfl, hc, hm, ?_⟩
  rcases h with h | ⟨b, o, rfl, h⟩
  · exact Or.inl h
  · refine Or.inr ⟨b, o, rfl, fun j hj => ?_⟩
    obtain ⟨h1, h2, h3⟩ := h j hj
    have hlt : b < w.heap.size := World.block_lt_of_cell? _ _ h1
    exact ⟨(hb.cell (p := ⟨b, _, none⟩) hlt).trans h1, (hb.cell (p := ⟨b, _, none⟩) hlt).trans h2, (hb.cell (p := ⟨b, _, none⟩) hlt).trans h3⟩

theorem rdE_len {w : World} {v : Value} {l : List Ent} (h : RdE w v l) : ∃ a c, v = .slice a l.length c ∧ l.length ≤ c ∧ c ≤ maxLen := by
  obtain ⟨a, c, rfl, hc, hm, _⟩ := h
  exact ⟨a, c, rfl, hc, hm⟩

theorem rdE_at {w : World} {a : Option Addr} {n c : Nat} {l : List Ent} (h : RdE w (.slice a n c) l) (j : Nat) (hj : j < l.length) : ∃ b o, a = some ⟨b, o, none⟩ ∧ b < w.heap.size ∧ w.cell? ⟨b, o + j * 3, none⟩ = some (.int .i64 (l.getD j e0).seq) ∧ w.cell? ⟨b, o + j * 3 + 1, none⟩ = some (.int .i64 (l.getD j e0).time) ∧ w.cell? ⟨b, o + j * 3 + 2, none⟩ = some (.string (l.getD j e0).text) := by
  obtain ⟨a', c', e, hc, hm, h⟩ := h
  injection e with e1 e2 e3
  rcases h with h | ⟨b, o, e4, h⟩
  · subst h; simp at hj
  · exact ⟨b, o, e1.trans e4, World.block_lt_of_cell? _ _ (h j hj).1, h j hj⟩

theorem all_false {n k : Nat} {f : Nat → Bool} (hk : k < n) (h : f k = false) : (List.range n).all f = false := by
  rw [List.all_eq_false]
  exact ⟨k, List.mem_range.2 hk, by simp [h]⟩

theorem below_drew1 {w w' : World} (h : Below w.drew.heap.size w.drew w') : Below w.heap.size w w' := ⟨h.os, h.tape, h.output, h.size, h.block⟩

set_option maxRecDepth 100000 in
set_option maxHeartbeats 4000000 in
theorem isSeg_core (a : Option Addr) (c : Nat) (l : List Ent) (w : World) (h : RdE w (.slice a l.length c) l) (h1 : 1 ≤ l.length) (h64 : l.length ≤ 64) (r : Bool) (hr : Hid (r = (List.range l.length).all (okAt l))) :
    Calls Tryd.prog 8 #[.slice a l.length c] w fun e w' => e = .returned (.bool r) ∧ Below w.heap.size w w' := by
  have HR := hide h
  clear h
  generalize hn : l.length = n at *
  have HN := hide hn
  clear hn
  have q1 : decide ((n : Int) < 1) = false := by simp; omega
  have q2 : decide ((64 : Int) < (n : Int)) = false := by simp; omega
  have q3 : ¬ (n : Int) < 1 := by omega
  have q4 : ¬ (64 : Int) < (n : Int) := by omega
  go_enter Tryd.func8, Tryd.ntmps8
  go_wp2_with fail
  clear q1 q2 q3 q4
  go_loopw [15] (fun i wr => ∃ k : Nat, k ≤ n ∧ i = .int .i64 k ∧ Below w.heap.size w wr ∧ (∀ i, i < k → okAt l i = true)) (fun i _ => n - (intOf i).toNat)
  case atStart => exact ⟨0, Nat.zero_le _, rfl, Below.refl _ _, fun i hi => absurd hi (Nat.not_lt_zero _)⟩
  case round =>
    obtain ⟨k, hk, rfl, hb, hall⟩ := hrel
    by_cases hlt : k < n
    · have hrd := HR.out.below hb
      obtain ⟨b, o, rfl, hblt, c0, c1, c2⟩ := rdE_at hrd k (by rw [HN.out]; exact hlt)
      by_cases hk0 : k = 0
      · subst hk0
        have hok : Hid (okAt l 0 = isE (l.getD 0 e0)) := by simp [Hid, okAt]
        generalize l.getD 0 e0 = e at *
        have cE := hide (fun w => isEntry_any e w)
        obtain ⟨s, t, x⟩ := e
        simp only [Nat.zero_mul, Nat.add_zero] at c0 c1 c2
        clear hrd
        go_wp2_with fail
        have k0 : (wr.alloc (Obj.cells #[Value.int IntKind.i64 s, Value.int IntKind.i64 t, Value.string x] 31)).cell? ⟨wr.heap.size, 0, none⟩ = some (.int .i64 s) := by simp
        have k1 : (wr.alloc (Obj.cells #[Value.int IntKind.i64 s, Value.int IntKind.i64 t, Value.string x] 31)).cell? ⟨wr.heap.size, 1, none⟩ = some (.int .i64 t) := by simp
        have k2 : (wr.alloc (Obj.cells #[Value.int IntKind.i64 s, Value.int IntKind.i64 t, Value.string x] 31)).cell? ⟨wr.heap.size, 2, none⟩ = some (.string x) := by simp
        have hWb := below_alloc wr (Obj.cells #[Value.int IntKind.i64 s, Value.int IntKind.i64 t, Value.string x] 31)
        have HWB := hide (hb.trans (hWb.mono hb.size))
        clear c0 c1 c2 hWb hb
        generalize (wr.alloc (Obj.cells #[Value.int IntKind.i64 s, Value.int IntKind.i64 t, Value.string x] 31)) = W at *
        generalize wr.heap.size = nb at *
        have k0' := cell_regrown k0
        have k1' := cell_regrown k1
        have k2' := cell_regrown k2
        cases hE : isE ⟨s, t, x⟩ with
        | false =>
          rw [hE] at cE
          have cE' : Hid (∀ d os, Calls Tryd.prog 15 #[.agg #[.int .i64 s, .int .i64 t, .string x]] (Sort.grow (redrawn W d) os) fun e w'' => e = .returned (.bool false) ∧ ∃ p : Regrown, w'' = Sort.grow (redrawn W p.d) p.os) := fun d os => Calls.regrown_of (cE.out _)
          clear cE
          have HOK : Hid (okAt l 0 = false) := hok.out.trans hE
          clear hE hok
          refine wp_region_quiet_below (by kernel_rfl) (by kernel_rfl) ?_
          repeat (go_big_quiet_step (first | (go_at_call 15; exact cE'.out _ _) | (go_at_call 16; exact cF'.out _ _)))
          refine wpQuiet_nil ?_
          intro _ hw'
          obtain ⟨⟨dq, osq⟩, hw''⟩ := hw'
          subst hw''
          have HB1 := hide (below_regrown W dq osq)
          clear k0' k1' k2'
          generalize Sort.grow (redrawn W dq) osq = w1 at *
          go_wp2
          go_ret
          exact ⟨by rw [hr.out, all_false hlt HOK.out]; rfl, HWB.out.trans (HB1.out.mono HWB.out.size)⟩
        | true =>
          rw [hE] at cE
          have cE' : Hid (∀ d os, Calls Tryd.prog 15 #[.agg #[.int .i64 s, .int .i64 t, .string x]] (Sort.grow (redrawn W d) os) fun e w'' => e = .returned (.bool true) ∧ ∃ p : Regrown, w'' = Sort.grow (redrawn W p.d) p.os) := fun d os => Calls.regrown_of (cE.out _)
          clear cE
          have HOK : Hid (okAt l 0 = true) := hok.out.trans hE
          clear hE hok
          refine wp_region_quiet_below (by kernel_rfl) (by kernel_rfl) ?_
          repeat (go_big_quiet_step (first | (go_at_call 15; exact cE'.out _ _) | (go_at_call 16; exact cF'.out _ _)))
          refine wpQuiet_nil ?_
          intro _ hw'
          obtain ⟨⟨dq, osq⟩, hw''⟩ := hw'
          subst hw''
          have HB1 := hide (below_regrown W dq osq)
          clear k0' k1' k2'
          generalize Sort.grow (redrawn W dq) osq = w1 at *
          go_wp2
          go_roundw
          case rel => exact ⟨1, by omega, by go_num, HWB.out.trans (HB1.out.mono HWB.out.size), fun i hi => by have : i = 0 := (by omega); subst this; exact HOK.out⟩
          case measure => simp [intOf]; omega
      · have hrd' := hrd
        obtain ⟨b', o', e', _, d0, d1, d2⟩ := rdE_at hrd' (k - 1) (by rw [HN.out]; omega)
        injection e' with e'
        injection e' with e1 e2
        subst e1 e2
        have hok : Hid (okAt l k = (isE (l.getD k e0) && fol (l.getD k e0) (l.getD (k - 1) e0))) := by simp [Hid, okAt, hk0]
        generalize l.getD k e0 = e at *
        generalize l.getD (k - 1) e0 = e' at *
        have cE := hide (fun w => isEntry_any e w)
        have cF := hide (fun w => follows_any e e' w)
        obtain ⟨s, t, x⟩ := e
        obtain ⟨s', t', x'⟩ := e'
        simp only at c0 c1 c2 d0 d1 d2
        clear hrd hrd'
        have hbwr : b < wr.heap.size := hblt
        go_wp2_with fail
        have k0 : (wr.alloc (Obj.cells #[Value.int IntKind.i64 s, Value.int IntKind.i64 t, Value.string x] 31)).cell? ⟨wr.heap.size, 0, none⟩ = some (.int .i64 s) := by simp
        have k1 : (wr.alloc (Obj.cells #[Value.int IntKind.i64 s, Value.int IntKind.i64 t, Value.string x] 31)).cell? ⟨wr.heap.size, 1, none⟩ = some (.int .i64 t) := by simp
        have k2 : (wr.alloc (Obj.cells #[Value.int IntKind.i64 s, Value.int IntKind.i64 t, Value.string x] 31)).cell? ⟨wr.heap.size, 2, none⟩ = some (.string x) := by simp
        have hWb := below_alloc wr (Obj.cells #[Value.int IntKind.i64 s, Value.int IntKind.i64 t, Value.string x] 31)
        have g0 := (hWb.cell (p := ⟨b, o + (k - 1) * 3, none⟩) hbwr).trans d0
        have g1 := (hWb.cell (p := ⟨b, o + (k - 1) * 3 + 1, none⟩) hbwr).trans d1
        have g2 := (hWb.cell (p := ⟨b, o + (k - 1) * 3 + 2, none⟩) hbwr).trans d2
        clear d0 d1 d2
        have hkk : (0 : Int) < (k : Int) := by omega
        have hkk2 : decide (0 < k) = true := by simp; omega
        have HWB := hide (hb.trans (hWb.mono hb.size))
        clear c0 c1 c2 hWb hb
        generalize (wr.alloc (Obj.cells #[Value.int IntKind.i64 s, Value.int IntKind.i64 t, Value.string x] 31)) = W at *
        generalize wr.heap.size = nb at *
        have k0' := cell_regrown k0
        have k1' := cell_regrown k1
        have k2' := cell_regrown k2
        have g0' := cell_regrown g0
        have g1' := cell_regrown g1
        have g2' := cell_regrown g2
        clear hbwr hblt g0 g1 g2
        cases hE : isE ⟨s, t, x⟩ with
        | false =>
          rw [hE] at cE
          have cE' : Hid (∀ d os, Calls Tryd.prog 15 #[.agg #[.int .i64 s, .int .i64 t, .string x]] (Sort.grow (redrawn W d) os) fun e w'' => e = .returned (.bool false) ∧ ∃ p : Regrown, w'' = Sort.grow (redrawn W p.d) p.os) := fun d os => Calls.regrown_of (cE.out _)
          clear cE
          have HOK : Hid (okAt l k = false) := by rw [hok.out, hE]; rfl
          clear hE hok cF
          refine wp_region_quiet_below (by kernel_rfl) (by kernel_rfl) ?_
          repeat (go_big_quiet_step (first | (go_at_call 15; exact cE'.out _ _) | (go_at_call 16; exact cF'.out _ _)))
          refine wpQuiet_nil ?_
          intro _ hw'
          obtain ⟨⟨dq, osq⟩, hw''⟩ := hw'
          subst hw''
          have HB1 := hide (below_regrown W dq osq)
          clear k0' k1' k2'
          generalize Sort.grow (redrawn W dq) osq = w1 at *
          go_wp2
          go_ret
          exact ⟨by rw [hr.out, all_false hlt HOK.out]; rfl, HWB.out.trans (HB1.out.mono HWB.out.size)⟩
        | true =>
          rw [hE] at cE
          have cE' : Hid (∀ d os, Calls Tryd.prog 15 #[.agg #[.int .i64 s, .int .i64 t, .string x]] (Sort.grow (redrawn W d) os) fun e w'' => e = .returned (.bool true) ∧ ∃ p : Regrown, w'' = Sort.grow (redrawn W p.d) p.os) := fun d os => Calls.regrown_of (cE.out _)
          clear cE
          cases hF : fol ⟨s, t, x⟩ ⟨s', t', x'⟩ with
          | false =>
            rw [hF] at cF
            have cF' : Hid (∀ d os, Calls Tryd.prog 16 #[.agg #[.int .i64 s, .int .i64 t, .string x], .agg #[.int .i64 s', .int .i64 t', .string x']] (Sort.grow (redrawn W d) os) fun e w'' => e = .returned (.bool false) ∧ ∃ p : Regrown, w'' = Sort.grow (redrawn W p.d) p.os) := fun d os => Calls.regrown_of (cF.out _)
            clear cF
            have HOK : Hid (okAt l k = false) := by rw [hok.out, hE, hF]; rfl
            clear hE hF hok
            refine wp_region_quiet_below (by kernel_rfl) (by kernel_rfl) ?_
            repeat (go_big_quiet_step (first | (go_at_call 15; exact cE'.out _ _) | (go_at_call 16; exact cF'.out _ _)))
            refine wpQuiet_nil ?_
            intro _ hw'
            obtain ⟨⟨dq, osq⟩, hw''⟩ := hw'
            subst hw''
            have HB1 := hide (below_regrown W dq osq)
            clear k0' k1' k2' g0' g1' g2'
            generalize Sort.grow (redrawn W dq) osq = w1 at *
            go_wp2
            go_ret
            exact ⟨by rw [hr.out, all_false hlt HOK.out]; rfl, HWB.out.trans (HB1.out.mono HWB.out.size)⟩
          | true =>
            rw [hF] at cF
            have cF' : Hid (∀ d os, Calls Tryd.prog 16 #[.agg #[.int .i64 s, .int .i64 t, .string x], .agg #[.int .i64 s', .int .i64 t', .string x']] (Sort.grow (redrawn W d) os) fun e w'' => e = .returned (.bool true) ∧ ∃ p : Regrown, w'' = Sort.grow (redrawn W p.d) p.os) := fun d os => Calls.regrown_of (cF.out _)
            clear cF
            have HOK : Hid (okAt l k = true) := by rw [hok.out, hE, hF]; rfl
            clear hE hF hok
            refine wp_region_quiet_below (by kernel_rfl) (by kernel_rfl) ?_
            repeat (go_big_quiet_step (first | (go_at_call 15; exact cE'.out _ _) | (go_at_call 16; exact cF'.out _ _)))
            refine wpQuiet_nil ?_
            intro _ hw'
            obtain ⟨⟨dq, osq⟩, hw''⟩ := hw'
            subst hw''
            have HB1 := hide (below_regrown W dq osq)
            clear k0' k1' k2' g0' g1' g2'
            generalize Sort.grow (redrawn W dq) osq = w1 at *
            go_wp2
            go_roundw
            case rel => exact ⟨k + 1, by omega, by go_num, HWB.out.trans (HB1.out.mono HWB.out.size), fun i hi => by by_cases c : i < k; exact hall i c; have : i = k := (by omega); subst this; exact HOK.out⟩
            case measure => simp [intOf]; omega
    · have HALL : Hid ((List.range n).all (okAt l) = true) := by
        show (List.range n).all (okAt l) = true
        rw [List.all_eq_true]
        intro i hi
        exact hall i (by have := List.mem_range.1 hi; omega)
      clear hall
      go_wp2
      go_ret
      exact ⟨by rw [hr.out, HALL.out]; rfl, hb⟩
end Go.Proofs.YtkncboinfcnklaaDoor
