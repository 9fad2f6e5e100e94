import Derived.Test.YtkncboinfcnklaaGreatDoorM1
import Derived.Test.YtkncboinfcnklaaGreatDoorPMath
import Derived.Lib.QuietBelow
import Derived.Lib.AppendStr
import Derived.Maps.AppendAt
import Derived.Lib.ConvBytes
import Derived.Lib.LaidTab
import Derived.WalkSmall
namespace Go.Proofs.YtkncboinfcnklaaGreatDoor
open Go.RowKit Go.Deep Go.Proofs.YtkncboinfcnklaaGreatDoor.Mth

abbrev eV (e : Ent) : Value := .agg #[.int .i64 e.seq, .int .i64 e.time, .string e.text]

theorem below_drew {w w' : World} {n : Nat} (h : Below (w.drewN n).heap.size (w.drewN n) w') : Below w.heap.size w w' := ⟨h.os, h.tape, h.output, h.size, h.block⟩
theorem below_drewN (w : World) (n : Nat) : Below w.heap.size w (w.drewN n) := ⟨rfl, rfl, rfl, Nat.le_refl _, fun _ _ => rfl⟩

set_option maxHeartbeats 400000 in
theorem pick_any (c n : Int) (w : World) (h0 : -9223372036854775808 ≤ c) (h1 : c < 9223372036854775808) (hn : 0 < n) (hn1 : n ≤ 4611686018427387904) :
    Calls Tryz.prog 15 #[.int .i64 c, .int .i64 n] w fun e w' => (∃ r : Int, 0 ≤ r ∧ r < n ∧ e = .returned (.int .i64 r)) ∧ w' = w := by
  have hz : (n == 0) = false := by simp; omega
  by_cases hc : c < 0
  · have hm : 0 ≤ (-(c + 1)).tmod n ∧ (-(c + 1)).tmod n < n := ⟨Int.tmod_nonneg _ (by omega), Int.tmod_lt_of_pos _ hn⟩
    go_enter Tryz.func15, Tryz.ntmps15
    go_wp2
    go_ret
    rw [Int.neg_tmod] at hm
    exact ⟨⟨_, hm.1, hm.2, rfl⟩, rfl⟩
  · go_enter Tryz.func15, Tryz.ntmps15
    go_wp2
    go_ret
    exact ⟨⟨_, Int.emod_nonneg _ (by omega), Int.emod_lt_of_pos _ hn, rfl⟩, rfl⟩

set_option maxHeartbeats 400000 in
theorem isNumber_any (n : Int) (w : World) : Calls Tryz.prog 273 #[.int .i64 n] w fun e w' => e = .returned (.bool (decide (0 ≤ n) && decide (n ≤ 1000000000000))) ∧ w' = w := by
  by_cases h0 : 0 ≤ n
  · by_cases h1 : n ≤ 1000000000000
    · go_enter Tryz.func273, Tryz.ntmps273
      go_wp2
      go_ret
      exact ⟨by simp [h0, h1], rfl⟩
    · go_enter Tryz.func273, Tryz.ntmps273
      go_wp2
      go_ret
      exact ⟨by simp [h1], rfl⟩
  · go_enter Tryz.func273, Tryz.ntmps273
    go_wp2
    go_ret
    exact ⟨by simp; omega, rfl⟩

set_option maxHeartbeats 1000000 in
theorem isEntry_core (s t : Int) (x : ByteArray) (p q r : Bool) (w : World) (cp : Hid (∀ w, Calls Tryz.prog 273 #[.int .i64 s] w fun e w' => e = .returned (.bool p) ∧ w' = w)) (cq : Hid (∀ w, Calls Tryz.prog 273 #[.int .i64 t] w fun e w' => e = .returned (.bool q) ∧ w' = w)) (hr : Hid (r = decide (x.size ≤ 60))) :
    Calls Tryz.prog 240 #[.agg #[.int .i64 s, .int .i64 t, .string x]] w fun e w' => e = .returned (.bool (p && q && r)) ∧ Below w.heap.size w w' := by
  cases p with
  | false =>
    go_enter Tryz.func240, Tryz.ntmps240
    go_wp2_with fail
    refine (cp.out _).mono ?_
    rintro e w' ⟨rfl, hw⟩
    rw [hw]
    clear hw w'
    go_wp2
    go_ret
    exact ⟨by simp, below_alloc w _⟩
  | true =>
    cases q with
    | false =>
      go_enter Tryz.func240, Tryz.ntmps240
      go_wp2_with fail
      refine (cp.out _).mono ?_
      rintro e w' ⟨rfl, hw⟩
      rw [hw]
      clear hw w'
      go_wp2_with fail
      refine (cq.out _).mono ?_
      rintro e w' ⟨rfl, hw⟩
      rw [hw]
      clear hw w'
      go_wp2
      go_ret
      exact ⟨by simp, below_alloc w _⟩
    | true =>
      by_cases hx : x.size ≤ 60
      · go_enter Tryz.func240, Tryz.ntmps240
        go_wp2_with fail
        refine (cp.out _).mono ?_
        rintro e w' ⟨rfl, hw⟩
        rw [hw]
        clear hw w'
        go_wp2_with fail
        refine (cq.out _).mono ?_
        rintro e w' ⟨rfl, hw⟩
        rw [hw]
        clear hw w'
        go_wp2
        go_ret
        exact ⟨by rw [hr.out]; simp [hx]; omega, below_alloc w _⟩
      · go_enter Tryz.func240, Tryz.ntmps240
        go_wp2_with fail
        refine (cp.out _).mono ?_
        rintro e w' ⟨rfl, hw⟩
        rw [hw]
        clear hw w'
        go_wp2_with fail
        refine (cq.out _).mono ?_
        rintro e w' ⟨rfl, hw⟩
        rw [hw]
        clear hw w'
        go_wp2
        go_ret
        exact ⟨by rw [hr.out]; simp [hx]; omega, below_alloc w _⟩

theorem isEntry_any (e : Ent) (w : World) : Calls Tryz.prog 240 #[eV e] w fun r w' => r = .returned (.bool (isE e)) ∧ Below w.heap.size w w' := by
  refine (isEntry_core e.seq e.time e.text _ _ _ w (isNumber_any e.seq) (isNumber_any e.time) rfl).mono ?_
  rintro r w' ⟨rfl, hb⟩
  exact ⟨by unfold isE; simp only [Bool.and_assoc], hb⟩

set_option maxHeartbeats 1000000 in
theorem follows_any (e l : Ent) (w : World) : Calls Tryz.prog 241 #[eV e, eV l] w fun r w' => r = .returned (.bool (fol e l)) ∧ Below w.heap.size w w' := by
  obtain ⟨s, t, x⟩ := e
  obtain ⟨s', t', x'⟩ := l
  unfold fol
  by_cases h0 : s' < s
  · by_cases h1 : t' ≤ t
    · go_enter Tryz.func241, Tryz.ntmps241
      go_wp2
      go_ret
      exact ⟨by simp [h0, h1], (below_alloc w _).alloc (by simp) _⟩
    · go_enter Tryz.func241, Tryz.ntmps241
      go_wp2
      go_ret
      exact ⟨by simp [h1], (below_alloc w _).alloc (by simp) _⟩
  · go_enter Tryz.func241, Tryz.ntmps241
    go_wp2
    go_ret
    exact ⟨by simp; omega, (below_alloc w _).alloc (by simp) _⟩
end Go.Proofs.YtkncboinfcnklaaGreatDoor

namespace Go.Proofs.YtkncboinfcnklaaGreatDoor
open Go.RowKit Go.Deep Go.Proofs.YtkncboinfcnklaaGreatDoor.Mth

/-- A slice whose elements read as these entries. -/
def RdE (w : World) (v : Value) (l : List Ent) : Prop :=
  ∃ (a : Option Addr) (c : Nat), v = .slice a l.length c ∧ l.length ≤ c ∧ c ≤ maxLen ∧ (l = [] ∨ ∃ b o, a = some ⟨b, o, none⟩ ∧ ∀ j, j < l.length → w.cell? ⟨b, o + j * 3, none⟩ = some (.int .i64 (l.getD j e0).seq) ∧ w.cell? ⟨b, o + j * 3 + 1, none⟩ = some (.int .i64 (l.getD j e0).time) ∧ w.cell? ⟨b, o + j * 3 + 2, none⟩ = some (.string (l.getD j e0).text))

theorem RdE.below {w w' : World} {v : Value} {l : List Ent} (h : RdE w v l) (hb : Below w.heap.size w w') : RdE w' v l := by
  obtain ⟨a, c, rfl, hc, hm, h⟩ := h
  refine ⟨a, c, rfl, hc, hm, ?_⟩
  rcases h with h | ⟨b, o, rfl, h⟩
  · exact Or.inl h
  · refine Or.inr ⟨b, o, rfl, fun j hj => ?_⟩
    obtain ⟨h1, h2, h3⟩ := h j hj
    have hlt : b < w.heap.size := World.block_lt_of_cell? _ _ h1
    exact ⟨(hb.cell (p := ⟨b, _, none⟩) hlt).trans h1, (hb.cell (p := ⟨b, _, none⟩) hlt).trans h2, (hb.cell (p := ⟨b, _, none⟩) hlt).trans h3⟩

theorem rdE_len {w : World} {v : Value} {l : List Ent} (h : RdE w v l) : ∃ a c, v = .slice a l.length c ∧ l.length ≤ c ∧ c ≤ maxLen := by
  obtain ⟨a, c, rfl, hc, hm, _⟩ := h
  exact ⟨a, c, rfl, hc, hm⟩

theorem rdE_at {w : World} {a : Option Addr} {n c : Nat} {l : List Ent} (h : RdE w (.slice a n c) l) (j : Nat) (hj : j < l.length) : ∃ b o, a = some ⟨b, o, none⟩ ∧ b < w.heap.size ∧ w.cell? ⟨b, o + j * 3, none⟩ = some (.int .i64 (l.getD j e0).seq) ∧ w.cell? ⟨b, o + j * 3 + 1, none⟩ = some (.int .i64 (l.getD j e0).time) ∧ w.cell? ⟨b, o + j * 3 + 2, none⟩ = some (.string (l.getD j e0).text) := by
  obtain ⟨a', c', e, hc, hm, h⟩ := h
  injection e with e1 e2 e3
  rcases h with h | ⟨b, o, e4, h⟩
  · subst h; simp at hj
  · exact ⟨b, o, e1.trans e4, World.block_lt_of_cell? _ _ (h j hj).1, h j hj⟩

theorem all_false {n k : Nat} {f : Nat → Bool} (hk : k < n) (h : f k = false) : (List.range n).all f = false := by
  rw [List.all_eq_false]
  exact ⟨k, List.mem_range.2 hk, by simp [h]⟩

theorem below_drew1 {w w' : World} (h : Below w.drew.heap.size w.drew w') : Below w.heap.size w w' := ⟨h.os, h.tape, h.output, h.size, h.block⟩

set_option maxRecDepth 100000 in
set_option maxHeartbeats 4000000 in
theorem isSeg_core (a : Option Addr) (c : Nat) (l : List Ent) (w : World) (h : RdE w (.slice a l.length c) l) (h1 : 1 ≤ l.length) (h64 : l.length ≤ 64) (r : Bool) (hr : Hid (r = (List.range l.length).all (okAt l))) :
    Calls Tryz.prog 190 #[.slice a l.length c] w fun e w' => e = .returned (.bool r) ∧ Below w.heap.size w w' := by
  have HR := hide h
  clear h
  generalize hn : l.length = n at *
  have HN := hide hn
  clear hn
  have q1 : decide ((n : Int) < 1) = false := by simp; omega
  have q2 : decide ((64 : Int) < (n : Int)) = false := by simp; omega
  have q3 : ¬ (n : Int) < 1 := by omega
  have q4 : ¬ (64 : Int) < (n : Int) := by omega
  go_enter Tryz.func190, Tryz.ntmps190
  go_wp2_with fail
  clear q1 q2 q3 q4
  go_loopw [15] (fun i wr => ∃ k : Nat, k ≤ n ∧ i = .int .i64 k ∧ Below w.heap.size w wr ∧ (∀ i, i < k → okAt l i = true)) (fun i _ => n - (intOf i).toNat)
  case atStart => exact ⟨0, Nat.zero_le _, rfl, Below.refl _ _, fun i hi => absurd hi (Nat.not_lt_zero _)⟩
  case round =>
    obtain ⟨k, hk, rfl, hb, hall⟩ := hrel
    by_cases hlt : k < n
    · have hrd := HR.out.below hb
      obtain ⟨b, o, rfl, hblt, c0, c1, c2⟩ := rdE_at hrd k (by rw [HN.out]; exact hlt)
      by_cases hk0 : k = 0
      · subst hk0
        have hok : Hid (okAt l 0 = isE (l.getD 0 e0)) := by simp [Hid, okAt]
        generalize l.getD 0 e0 = e at *
        have cE := hide (fun w => isEntry_any e w)
        obtain ⟨s, t, x⟩ := e
        simp only [Nat.zero_mul, Nat.add_zero] at c0 c1 c2
        clear hrd
        go_wp2_with fail
        have k0 : (wr.alloc (Obj.cells #[Value.int IntKind.i64 s, Value.int IntKind.i64 t, Value.string x] 66)).cell? ⟨wr.heap.size, 0, none⟩ = some (.int .i64 s) := by simp
        have k1 : (wr.alloc (Obj.cells #[Value.int IntKind.i64 s, Value.int IntKind.i64 t, Value.string x] 66)).cell? ⟨wr.heap.size, 1, none⟩ = some (.int .i64 t) := by simp
        have k2 : (wr.alloc (Obj.cells #[Value.int IntKind.i64 s, Value.int IntKind.i64 t, Value.string x] 66)).cell? ⟨wr.heap.size, 2, none⟩ = some (.string x) := by simp
        have hWb := below_alloc wr (Obj.cells #[Value.int IntKind.i64 s, Value.int IntKind.i64 t, Value.string x] 66)
        have HWB := hide (hb.trans (hWb.mono hb.size))
        clear c0 c1 c2 hWb hb
        generalize (wr.alloc (Obj.cells #[Value.int IntKind.i64 s, Value.int IntKind.i64 t, Value.string x] 66)) = W at *
        generalize wr.heap.size = nb at *
        have k0' := cell_regrown k0
        have k1' := cell_regrown k1
        have k2' := cell_regrown k2
        cases hE : isE ⟨s, t, x⟩ with
        | false =>
          rw [hE] at cE
          have cE' : Hid (∀ d os, Calls Tryz.prog 240 #[.agg #[.int .i64 s, .int .i64 t, .string x]] (Sort.grow (redrawn W d) os) fun e w'' => e = .returned (.bool false) ∧ ∃ p : Regrown, w'' = Sort.grow (redrawn W p.d) p.os) := fun d os => Calls.regrown_of (cE.out _)
          clear cE
          have HOK : Hid (okAt l 0 = false) := hok.out.trans hE
          clear hE hok
          refine wp_region_quiet_below (by kernel_rfl) (by kernel_rfl) ?_
          repeat (go_big_quiet_step (first | (go_at_call 240; exact cE'.out _ _) | (go_at_call 241; exact cF'.out _ _)))
          refine wpQuiet_nil ?_
          intro _ hw'
          obtain ⟨⟨dq, osq⟩, hw''⟩ := hw'
          subst hw''
          have HB1 := hide (below_regrown W dq osq)
          clear k0' k1' k2'
          generalize Sort.grow (redrawn W dq) osq = w1 at *
          go_wp2
          go_ret
          exact ⟨by rw [hr.out, all_false hlt HOK.out]; rfl, HWB.out.trans (HB1.out.mono HWB.out.size)⟩
        | true =>
          rw [hE] at cE
          have cE' : Hid (∀ d os, Calls Tryz.prog 240 #[.agg #[.int .i64 s, .int .i64 t, .string x]] (Sort.grow (redrawn W d) os) fun e w'' => e = .returned (.bool true) ∧ ∃ p : Regrown, w'' = Sort.grow (redrawn W p.d) p.os) := fun d os => Calls.regrown_of (cE.out _)
          clear cE
          have HOK : Hid (okAt l 0 = true) := hok.out.trans hE
          clear hE hok
          refine wp_region_quiet_below (by kernel_rfl) (by kernel_rfl) ?_
          repeat (go_big_quiet_step (first | (go_at_call 240; exact cE'.out _ _) | (go_at_call 241; exact cF'.out _ _)))
          refine wpQuiet_nil ?_
          intro _ hw'
          obtain ⟨⟨dq, osq⟩, hw''⟩ := hw'
          subst hw''
          have HB1 := hide (below_regrown W dq osq)
          clear k0' k1' k2'
          generalize Sort.grow (redrawn W dq) osq = w1 at *
          go_wp2
          go_roundw
          case rel => exact ⟨1, by omega, by go_num, HWB.out.trans (HB1.out.mono HWB.out.size), fun i hi => by have : i = 0 := (by omega); subst this; exact HOK.out⟩
          case measure => simp [intOf]; omega
      · have hrd' := hrd
        obtain ⟨b', o', e', _, d0, d1, d2⟩ := rdE_at hrd' (k - 1) (by rw [HN.out]; omega)
        injection e' with e'
        injection e' with e1 e2
        subst e1 e2
        have hok : Hid (okAt l k = (isE (l.getD k e0) && fol (l.getD k e0) (l.getD (k - 1) e0))) := by simp [Hid, okAt, hk0]
        generalize l.getD k e0 = e at *
        generalize l.getD (k - 1) e0 = e' at *
        have cE := hide (fun w => isEntry_any e w)
        have cF := hide (fun w => follows_any e e' w)
        obtain ⟨s, t, x⟩ := e
        obtain ⟨s', t', x'⟩ := e'
        simp only at c0 c1 c2 d0 d1 d2
        clear hrd hrd'
        have hbwr : b < wr.heap.size := hblt
        go_wp2_with fail
        have k0 : (wr.alloc (Obj.cells #[Value.int IntKind.i64 s, Value.int IntKind.i64 t, Value.string x] 66)).cell? ⟨wr.heap.size, 0, none⟩ = some (.int .i64 s) := by simp
        have k1 : (wr.alloc (Obj.cells #[Value.int IntKind.i64 s, Value.int IntKind.i64 t, Value.string x] 66)).cell? ⟨wr.heap.size, 1, none⟩ = some (.int .i64 t) := by simp
        have k2 : (wr.alloc (Obj.cells #[Value.int IntKind.i64 s, Value.int IntKind.i64 t, Value.string x] 66)).cell? ⟨wr.heap.size, 2, none⟩ = some (.string x) := by simp
        have hWb := below_alloc wr (Obj.cells #[Value.int IntKind.i64 s, Value.int IntKind.i64 t, Value.string x] 66)
        have g0 := (hWb.cell (p := ⟨b, o + (k - 1) * 3, none⟩) hbwr).trans d0
        have g1 := (hWb.cell (p := ⟨b, o + (k - 1) * 3 + 1, none⟩) hbwr).trans d1
        have g2 := (hWb.cell (p := ⟨b, o + (k - 1) * 3 + 2, none⟩) hbwr).trans d2
        clear d0 d1 d2
        have hkk : (0 : Int) < (k : Int) := by omega
        have hkk2 : decide (0 < k) = true := by simp; omega
        have HWB := hide (hb.trans (hWb.mono hb.size))
        clear c0 c1 c2 hWb hb
        generalize (wr.alloc (Obj.cells #[Value.int IntKind.i64 s, Value.int IntKind.i64 t, Value.string x] 66)) = W at *
        generalize wr.heap.size = nb at *
        have k0' := cell_regrown k0
        have k1' := cell_regrown k1
        have k2' := cell_regrown k2
        have g0' := cell_regrown g0
        have g1' := cell_regrown g1
        have g2' := cell_regrown g2
        clear hbwr hblt g0 g1 g2
        cases hE : isE ⟨s, t, x⟩ with
        | false =>
          rw [hE] at cE
          have cE' : Hid (∀ d os, Calls Tryz.prog 240 #[.agg #[.int .i64 s, .int .i64 t, .string x]] (Sort.grow (redrawn W d) os) fun e w'' => e = .returned (.bool false) ∧ ∃ p : Regrown, w'' = Sort.grow (redrawn W p.d) p.os) := fun d os => Calls.regrown_of (cE.out _)
          clear cE
          have HOK : Hid (okAt l k = false) := by rw [hok.out, hE]; rfl
          clear hE hok cF
          refine wp_region_quiet_below (by kernel_rfl) (by kernel_rfl) ?_
          repeat (go_big_quiet_step (first | (go_at_call 240; exact cE'.out _ _) | (go_at_call 241; exact cF'.out _ _)))
          refine wpQuiet_nil ?_
          intro _ hw'
          obtain ⟨⟨dq, osq⟩, hw''⟩ := hw'
          subst hw''
          have HB1 := hide (below_regrown W dq osq)
          clear k0' k1' k2'
          generalize Sort.grow (redrawn W dq) osq = w1 at *
          go_wp2
          go_ret
          exact ⟨by rw [hr.out, all_false hlt HOK.out]; rfl, HWB.out.trans (HB1.out.mono HWB.out.size)⟩
        | true =>
          rw [hE] at cE
          have cE' : Hid (∀ d os, Calls Tryz.prog 240 #[.agg #[.int .i64 s, .int .i64 t, .string x]] (Sort.grow (redrawn W d) os) fun e w'' => e = .returned (.bool true) ∧ ∃ p : Regrown, w'' = Sort.grow (redrawn W p.d) p.os) := fun d os => Calls.regrown_of (cE.out _)
          clear cE
          cases hF : fol ⟨s, t, x⟩ ⟨s', t', x'⟩ with
          | false =>
            rw [hF] at cF
            have cF' : Hid (∀ d os, Calls Tryz.prog 241 #[.agg #[.int .i64 s, .int .i64 t, .string x], .agg #[.int .i64 s', .int .i64 t', .string x']] (Sort.grow (redrawn W d) os) fun e w'' => e = .returned (.bool false) ∧ ∃ p : Regrown, w'' = Sort.grow (redrawn W p.d) p.os) := fun d os => Calls.regrown_of (cF.out _)
            clear cF
            have HOK : Hid (okAt l k = false) := by rw [hok.out, hE, hF]; rfl
            clear hE hF hok
            refine wp_region_quiet_below (by kernel_rfl) (by kernel_rfl) ?_
            repeat (go_big_quiet_step (first | (go_at_call 240; exact cE'.out _ _) | (go_at_call 241; exact cF'.out _ _)))
            refine wpQuiet_nil ?_
            intro _ hw'
            obtain ⟨⟨dq, osq⟩, hw''⟩ := hw'
            subst hw''
            have HB1 := hide (below_regrown W dq osq)
            clear k0' k1' k2' g0' g1' g2'
            generalize Sort.grow (redrawn W dq) osq = w1 at *
            go_wp2
            go_ret
            exact ⟨by rw [hr.out, all_false hlt HOK.out]; rfl, HWB.out.trans (HB1.out.mono HWB.out.size)⟩
          | true =>
            rw [hF] at cF
            have cF' : Hid (∀ d os, Calls Tryz.prog 241 #[.agg #[.int .i64 s, .int .i64 t, .string x], .agg #[.int .i64 s', .int .i64 t', .string x']] (Sort.grow (redrawn W d) os) fun e w'' => e = .returned (.bool true) ∧ ∃ p : Regrown, w'' = Sort.grow (redrawn W p.d) p.os) := fun d os => Calls.regrown_of (cF.out _)
            clear cF
            have HOK : Hid (okAt l k = true) := by rw [hok.out, hE, hF]; rfl
            clear hE hF hok
            refine wp_region_quiet_below (by kernel_rfl) (by kernel_rfl) ?_
            repeat (go_big_quiet_step (first | (go_at_call 240; exact cE'.out _ _) | (go_at_call 241; exact cF'.out _ _)))
            refine wpQuiet_nil ?_
            intro _ hw'
            obtain ⟨⟨dq, osq⟩, hw''⟩ := hw'
            subst hw''
            have HB1 := hide (below_regrown W dq osq)
            clear k0' k1' k2' g0' g1' g2'
            generalize Sort.grow (redrawn W dq) osq = w1 at *
            go_wp2
            go_roundw
            case rel => exact ⟨k + 1, by omega, by go_num, HWB.out.trans (HB1.out.mono HWB.out.size), fun i hi => by by_cases c : i < k; exact hall i c; have : i = k := (by omega); subst this; exact HOK.out⟩
            case measure => simp [intOf]; omega
    · have HALL : Hid ((List.range n).all (okAt l) = true) := by
        show (List.range n).all (okAt l) = true
        rw [List.all_eq_true]
        intro i hi
        exact hall i (by have := List.mem_range.1 hi; omega)
      clear hall
      go_wp2
      go_ret
      exact ⟨by rw [hr.out, HALL.out]; rfl, hb⟩
end Go.Proofs.YtkncboinfcnklaaGreatDoor

namespace Go.Proofs.YtkncboinfcnklaaGreatDoor
open Go.RowKit Go.Deep Go.Proofs.YtkncboinfcnklaaGreatDoor.Mth

abbrev eB : Int → Value := Value.int .u8

theorem Tryz.info5 : (Tryz.prog.info? 5).map (fun i => (i.zero, i.size, i.bytes)) = some (some (.int .u8 0), 1, 1) := by kernel_rfl

/-- Bytes of the call's own. -/
def CurB (w0 w : World) (v : Value) (l : List Int) : Prop := Below w0.heap.size w0 w ∧ w.ownsRow w0.heap.size 5 1 v l.length (l.map eB)

theorem curB_append {w0 w w2 : World} {v v2 : Value} {o : Obj} {l : List Int} {a : Int} (h : CurB w0 w v l) (h2 : w2.ownsRow w0.heap.size 5 1 v2 (l.length + 1) (l.map eB ++ [.int .u8 a])) (hg : (w.alloc o).grownBy w2 v.ownBlock) : CurB w0 w2 v2 (l ++ [a]) :=
  ⟨below_append h.1 h.1.size h.2 hg, by simpa using h2⟩

theorem curB_more {w0 w w2 : World} {v v2 : Value} {l m : List Int} {n : Nat} (h : CurB w0 w v l) (hn : n = m.length) (h2 : w2.ownsRow w0.heap.size 5 1 v2 (l.length + n) (l.map eB ++ m.map eB)) (hg : w.grownBy w2 v.ownBlock) : CurB w0 w2 v2 (l ++ m) := by
  subst hn
  refine ⟨h.1.grown hg h.1.size ?_, by simpa using h2⟩
  intro k hk
  rcases h.2.2 with ⟨h0, _⟩ | ⟨g, cap, cur, hv, hbase, _⟩
  · subst h0; simp [Value.ownBlock] at hk
  · subst hv; simp [Value.ownBlock] at hk; omega

theorem curB_nil (w : World) : CurB w w (.slice none 0 0) [] := ⟨Below.refl _ _, World.ownsRow_nil _ _ _ _⟩

/-- Every block that holds no bytes stands as it stood. -/
def Keep5 (w w' : World) : Prop := ∀ (k : Nat) (c : Array Value) (t : TypeId) (fr : Nat × Nat), t ≠ 5 → w.heap[k]? = some (Obj.cells c t fr) → w'.heap[k]? = some (Obj.cells c t fr)

theorem Keep5.refl (w : World) : Keep5 w w := fun _ _ _ _ _ h => h
theorem Keep5.trans {a b c : World} (h : Keep5 a b) (k : Keep5 b c) : Keep5 a c := fun i x t fr ht hx => k i x t fr ht (h i x t fr ht hx)
theorem keep5_below {w w' : World} (h : Below w.heap.size w w') : Keep5 w w' := fun k c t fr _ hk => by
  have hlt : k < w.heap.size := (Array.getElem?_eq_some_iff.1 hk).1
  rw [h.block k hlt]; exact hk
theorem keep5_grown {w w' : World} {base n : Nat} {v : Value} {xs : List Value} (ho : w.ownsRow base 5 1 v n xs) (h : w.grownBy w' v.ownBlock) : Keep5 w w' := fun k c t fr ht hk => by
  have hlt : k < w.heap.size := (Array.getElem?_eq_some_iff.1 hk).1
  rw [h.block k hlt ?_]
  · exact hk
  · intro e
    rcases ho.2 with ⟨h0, _⟩ | ⟨g, cap, cur, hv, _, hg, _⟩
    · subst h0; simp [Value.ownBlock] at e
    · subst hv
      simp [Value.ownBlock] at e
      subst e
      rw [hg] at hk
      injection hk with hk
      injection hk with _ hk _
      exact ht hk.symm

theorem keep5_cell {w w' : World} {k : Nat} {c : Array Value} {t : TypeId} {fr : Nat × Nat} (h : Keep5 w w') (ht : t ≠ 5) (hk : w.heap[k]? = some (.cells c t fr)) (o : Nat) : w'.cell? ⟨k, o, none⟩ = w.cell? ⟨k, o, none⟩ := by
  have := h k c t fr ht hk
  exact World.cell?_of_block (w := w) (a := ⟨k, o, none⟩) (this.trans hk.symm)

/-- What an append to v leaves: the rest of memory; where the new slice lies. -/
def Gr (w : World) (v : Value) (w' : World) (v' : Value) : Prop := w.grownBy w' v.ownBlock ∧ (v'.ownBlock = v.ownBlock ∨ ∃ g, v'.ownBlock = some g ∧ w.heap.size ≤ g)

theorem Gr.refl (w : World) (v : Value) : Gr w v w v := ⟨⟨rfl, rfl, rfl, Nat.le_refl _, fun _ _ _ => rfl⟩, Or.inl rfl⟩
theorem Gr.trans {w w1 w2 : World} {v v1 v2 : Value} (h : Gr w v w1 v1) (k : Gr w1 v1 w2 v2) : Gr w v w2 v2 := by
  have hs := h.1.size
  refine ⟨⟨k.1.os.trans h.1.os, k.1.tape.trans h.1.tape, k.1.output.trans h.1.output, Nat.le_trans hs k.1.size, fun j hj hne => ?_⟩, ?_⟩
  · rw [k.1.block j (by omega) ?_, h.1.block j hj hne]
    rcases h.2 with e | ⟨g, e, hg⟩
    · rw [e]; exact hne
    · rw [e]; intro e2; injection e2 with e2; omega
  · rcases k.2 with e | ⟨g, e, hg⟩
    · rcases h.2 with e' | ⟨g, e', hg⟩
      · exact Or.inl (e.trans e')
      · exact Or.inr ⟨g, e.trans e', hg⟩
    · exact Or.inr ⟨g, e, by omega⟩
theorem Gr.below {w w' : World} (v : Value) (h : Below w.heap.size w w') : Gr w v w' v := ⟨⟨h.os, h.tape, h.output, h.size, fun k hk _ => h.block k hk⟩, Or.inl rfl⟩
theorem gr_append {w w2 : World} {o : Obj} {v v2 : Value} (hg : (w.alloc o).grownBy w2 v.ownBlock) (hat : v2.ownBlock = v.ownBlock ∨ v2.ownBlock = some (w.alloc o).heap.size) : Gr w v w2 v2 :=
  (Gr.below v (below_alloc w o)).trans ⟨hg, hat.imp id fun e => ⟨_, e, Nat.le_refl _⟩⟩
theorem gr_more {w w2 : World} {v v2 : Value} (hg : w.grownBy w2 v.ownBlock) (hat : v2.ownBlock = v.ownBlock ∨ v2.ownBlock = some w.heap.size) : Gr w v w2 v2 :=
  ⟨hg, hat.imp id fun e => ⟨_, e, Nat.le_refl _⟩⟩
theorem Gr.keep5 {w w' : World} {base n : Nat} {v v' : Value} {xs : List Value} (h : Gr w v w' v') (ho : w.ownsRow base 5 1 v n xs) : Keep5 w w' := keep5_grown ho h.1
/-- Another row. -/
theorem Gr.own {w w' : World} {base n : Nat} {e : TypeId} {sz : Nat} {v v' u : Value} {xs : List Value} (h : Gr w v w' v') (hu : w.ownsRow base e sz u n xs) (hne : u.ownBlock = none ∨ u.ownBlock ≠ v.ownBlock) : w'.ownsRow base e sz u n xs ∧ (u.ownBlock = none ∨ u.ownBlock ≠ v'.ownBlock) := by
  refine ⟨hu.kept h.1 hne, ?_⟩
  rcases hne with hne | hne
  · exact Or.inl hne
  · rcases h.2 with e | ⟨g, e, hg⟩
    · rw [e]; exact Or.inr hne
    · refine Or.inr fun e2 => ?_
      have := hu.lt g (e2.trans e)
      omega

theorem run_str_at {P : Program} (w : World) (base : Nat) (t u ty e : TypeId) (i : TypeInfo) (ht : P.underlying t = some (.slice e)) (hu : P.underlying u = some .string) (hi : P.info? e = some i) (hz : i.zero = some (.int .u8 0))
    (hsize : i.size = 1) (hby : i.bytes = 1) (v : Value) (n : Nat) (xs : List Value) (hown : w.ownsRow base e 1 v n xs) (s : ByteArray)
    (h63 : n + s.size ≤ maxLen) (hbytes : n + s.size ≤ 140737488355328) (v' : Value) (w' : World) (hr : (Builtin.append_ #[t, u] ty #[v, .string s]).run P w = .ok v' w') (hnil : v' = .slice none 0 0 ↔ v = .slice none 0 0 ∧ s.size = 0) :
    v'.ownBlock = v.ownBlock ∨ v'.ownBlock = some w.heap.size := by
  have hxl : xs.length = n := by simpa using hown.1
  have hsmall : n + s.size ≤ 9223372036854775807 := by simp only [maxLen] at h63; omega
  rcases hown.2 with ⟨rfl, rfl⟩ | ⟨g, cap, cur, rfl, hbg, hg, hnc, hcm, hcs, htake⟩
  · by_cases hm : s.size = 0
    · rw [hnil.2 ⟨rfl, hm⟩]; exact Or.inl rfl
    · have hr' := run_append_nil_string (P := P) w t u ty e i (.int .u8 0) ht hu hi hz s (by omega) (by omega) (by rw [hby]; exact (by omega))
      rw [hr] at hr'
      injection hr' with e1 e2
      rw [e1]; exact Or.inr rfl
  · by_cases hroom : n + s.size ≤ cap
    · have hcs' : cur.size = cap := by simpa using hcs
      have hr' := Lib.run_append_room_string (P := P) w t u ty e i ht hu hi hsize g n cap cur hg s hroom (by omega)
      rw [hr] at hr'
      injection hr' with e1 e2
      rw [e1]; exact Or.inl rfl
    · have holds : ∀ j u, xs[j]? = some u → w.cell? ((⟨g, 0, none⟩ : Addr).add j) = some u := hown.cells (g := g) rfl
      have hr' := Lib.run_append_grow_string (P := P) w t u ty e i (.int .u8 0) ht hu hi hz ⟨g, 0, none⟩ n cap xs (by rw [hsize]; simpa using hxl) holds s (by omega) (by omega) (by rw [hby]; exact growslice_fits (by omega) (by omega))
      rw [hr] at hr'
      injection hr' with e1 e2
      rw [e1]; exact Or.inr rfl

theorem wpList_str_at {P : Program} (w : World) {ops : Array Oper} {rest : List Oper} {o : Oper} {a : Act} {Q : Exit → Act → World → Prop} (hgd : o.guard = none) (sl x : Operand) (t u : TypeId)
    (ho : o.op = .call { callee := .builtin .append, args := #[sl, x], argTypes := #[t, u] })
    (base : Nat) (e : TypeId) (i : TypeInfo) (ht : P.underlying t = some (.slice e)) (hu : P.underlying u = some .string) (hi : P.info? e = some i) (hz : i.zero = some (.int .u8 0))
    (hsize : i.size = 1) (hby : i.bytes = 1)
    (v : Value) (n : Nat) (xs : List Value) (hs : a.eval sl = v) (hown : w.ownsRow base e 1 v n xs) (s : ByteArray) (hx : a.eval x = .string s)
    (h63 : n + s.size ≤ maxLen) (hbytes : n + s.size ≤ 140737488355328) (hbase : base ≤ w.heap.size)
    (h : ∀ v' w', w'.ownsRow base e 1 v' (n + s.size) (xs ++ Lib.strCells s) → w.grownBy w' v.ownBlock → (v'.ownBlock = v.ownBlock ∨ v'.ownBlock = some w.heap.size) → wpList P ops Q rest (a.put o.dst v') w') : wpList P ops Q (o :: rest) a w := by
  refine wpList_plain hgd fun K hK => ?_
  obtain ⟨v', w', hr, h2, h3, h4⟩ := Lib.run_append_own_string (P := P) w base t u o.type e i ht hu hi hz hsize hby v n xs hown s h63 hbytes hbase
  have h5 := run_str_at w base t u o.type e i ht hu hi hz hsize hby v n xs hown s h63 hbytes v' w' hr h4
  unfold Oper.wp execOp
  simp only [ho, resolve, invoke, builtin, Sem.run_bind, Sem.run_pure, Result.andThen_ok, List.map_toArray, List.map_cons, List.map_nil, hs, hx, hr]
  exact hK _ _ (h v' w' h2 h3 h5)

theorem pow28 : ∀ k : Nat, (2 : Int) ^ (8 * k) = 256 ^ k
  | 0 => rfl
  | k + 1 => by rw [show 8 * (k + 1) = 8 * k + 8 by omega, Int.pow_add, pow28 k, Int.pow_succ]; rfl

set_option maxRecDepth 100000 in
set_option maxHeartbeats 400000 in
theorem appNum_any (w0 w : World) (v : Value) (l : List Int) (n : Int) (size : Nat) (h : CurB w0 w v l) (_hn : 0 ≤ n) (_hn1 : n < 9223372036854775808) (hs : size ≤ 8) (hl : l.length ≤ 1048576) :
    Calls Tryz.prog 191 #[v, .int .i64 n, .int .i64 size] w fun e w' => ∃ v', e = .returned v' ∧ CurB w0 w' v' (l ++ num n size) ∧ Gr w v w' v' := by
  have HC := hide h
  clear h
  obtain ⟨i0, hi0, hz0, hz1, hz2⟩ := info_parts Tryz.info5
  go_enter Tryz.func191, Tryz.ntmps191
  go_wp2_with fail
  go_loopw [0, 7] (fun b i wr => ∃ (k : Nat) (m : List Int), k ≤ size ∧ i = .int .i64 ((k : Int) - 1) ∧ CurB w0 wr b m ∧ m.length + k = l.length + size ∧ m ++ num n k = l ++ num n size ∧ Gr w v wr b) (fun _ i _ => (intOf i + 1).toNat)
  case atStart => exact ⟨size, l, Nat.le_refl _, rfl, HC.out, rfl, rfl, Gr.refl _ _⟩
  case round =>
    obtain ⟨k, m, hk, rfl, hcur, hlen, heq, hkp⟩ := hrel
    have HKP := hide hkp
    clear hkp
    have HC2 := hide hcur
    have HEQ := hide heq
    clear hcur heq HC
    cases k with
    | zero =>
      have hneg : ¬ (0 : Int) ≤ ((0 : Nat) : Int) - 1 := by omega
      go_wp2
      go_ret
      exact ⟨_, rfl, by have := HEQ.out; rw [num, List.append_nil] at this; rw [← this]; exact HC2.out, HKP.out⟩
    | succ k =>
      rw [show ((k + 1 : Nat) : Int) - 1 = (k : Int) by omega]
      go_wp2_with (at_builtin; refine wpList_append_own_at _ rfl _ _ 158 rfl w0.heap.size 5 i0 (.int .u8 0) 1 1 Tryz.underlying158 hi0 hz0 hz1 hz2 rfl (by decide) _ _ _ rfl (HC2.out.2.alloc _) ⟨wr.heap.size, 0, none⟩ 1 1 [.int .u8 (n / 2 ^ (8 * k) % 256)] rfl rfl (cell_one_new _ _ _) (by intro u hu; simp at hu; subst hu; rfl) (by unfold maxLen; omega) (by omega) (by have := HC2.out.1.size; simp at this ⊢; omega) ?_; intro v3 w3 hown3 hgrow3 _ hat3; have HC3 := hide (curB_append HC2.out hown3 hgrow3); have HK3 := hide (HKP.out.trans (gr_append hgrow3 hat3)); clear hown3 hgrow3 hat3)
      go_roundw
      case rel => exact ⟨k, m ++ [n / 2 ^ (8 * k) % 256], by omega, by go_num, HC3.out, by rw [List.length_append, List.length_singleton]; omega, by have := HEQ.out; rw [num, ← pow28] at this; rw [List.append_assoc]; exact this, HK3.out⟩
      case measure => simp [intOf]

theorem strCells_tb (s : ByteArray) : Lib.strCells s = (tb s).map eB := by
  unfold Lib.strCells tb
  rw [List.map_map]
  rfl

set_option maxRecDepth 100000 in
set_option maxHeartbeats 400000 in
theorem appText_any (w0 w : World) (v : Value) (l : List Int) (x : ByteArray) (h : CurB w0 w v l) (hl : l.length ≤ 1048576) (hx : x.size ≤ 1048576) :
    Calls Tryz.prog 242 #[v, .string x] w fun e w' => ∃ v', e = .returned v' ∧ CurB w0 w' v' (l ++ (((x.size : Int) % 256) :: tb x)) ∧ Gr w v w' v' := by
  have HC := hide h
  clear h
  obtain ⟨i0, hi0, hz0, hz1, hz2⟩ := info_parts Tryz.info5
  go_enter Tryz.func242, Tryz.ntmps242
  go_wp2_with (first
    | (at_builtin; refine wpList_append_own_at _ rfl (.tmp 5) (.tmp 9) 158 rfl w0.heap.size 5 i0 (.int .u8 0) 1 1 Tryz.underlying158 hi0 hz0 hz1 hz2 rfl (by decide) _ _ _ rfl (HC.out.2.alloc _) ⟨w.heap.size, 0, none⟩ 1 1 [.int .u8 ((x.size : Int) % 256)] rfl rfl (cell_one_new _ _ _) (by intro u hu; simp at hu; subst hu; rfl) (by unfold maxLen; omega) (by omega) (by have := HC.out.1.size; simp at this ⊢; omega) ?_; intro v3 w3 hown3 hgrow3 _ hat3; have HC3 := hide (curB_append HC.out hown3 hgrow3); have HK3 := hide (gr_append hgrow3 hat3); clear hown3 hgrow3 hat3)
    | (at_builtin; refine wpList_str_at _ rfl (.tmp 10) (.tmp 11) 158 9 rfl w0.heap.size 5 i0 Tryz.underlying158 Tryz.underlying9 hi0 hz0 hz1 hz2 _ _ _ rfl HC3.out.2 x rfl (by unfold maxLen; simp; omega) (by simp; omega) (by exact HC3.out.1.size) ?_; intro v4 w4 hown4 hgrow4 hat4; rw [strCells_tb] at hown4; have HC4 := hide (curB_more HC3.out (tb_len x).symm hown4 hgrow4); have HK4 := hide (HK3.out.trans (gr_more hgrow4 hat4)); clear hown4 hgrow4 hat4))
  go_ret
  exact ⟨_, rfl, by have := HC4.out; rwa [List.append_assoc] at this, HK4.out⟩

set_option maxRecDepth 100000 in
set_option maxHeartbeats 400000 in
theorem appEntry_any (w0 w : World) (v : Value) (l : List Int) (e : Ent) (h : CurB w0 w v l) (hl : l.length ≤ 524288) (he : isE e = true) :
    Calls Tryz.prog 192 #[v, eV e] w fun r w' => ∃ v', r = .returned v' ∧ CurB w0 w' v' (l ++ ent e) ∧ Gr w v w' v' := by
  unfold isE at he
  simp only [Bool.and_eq_true, decide_eq_true_iff] at he
  obtain ⟨⟨⟨⟨a, b⟩, c⟩, d⟩, f⟩ := he
  obtain ⟨s, t, x⟩ := e
  simp only at a b c d f
  have HC : Hid (CurB w0 (w.alloc (.cells #[.int .i64 s, .int .i64 t, .string x] 66)) v l) := ⟨h.1.trans ((below_alloc w _).mono h.1.size), h.2.alloc _⟩
  have hblk : Hid ((w.alloc (.cells #[.int .i64 s, .int .i64 t, .string x] 66)).heap[w.heap.size]? = some (.cells #[.int .i64 s, .int .i64 t, .string x] 66 (0, 0))) := by
    show (w.heap.push _)[w.heap.size]? = _
    rw [Array.getElem?_push, if_pos rfl]
  have HK0 := hide (Gr.below v (below_alloc w (.cells #[.int .i64 s, .int .i64 t, .string x] 66)))
  have k1 : (w.alloc (.cells #[.int .i64 s, .int .i64 t, .string x] 66)).cell? ⟨w.heap.size, 1, none⟩ = some (.int .i64 t) := by simp
  have k2 : (w.alloc (.cells #[.int .i64 s, .int .i64 t, .string x] 66)).cell? ⟨w.heap.size, 2, none⟩ = some (.string x) := by simp
  clear h
  go_enter Tryz.func192, Tryz.ntmps192
  go_wp2_with fail
  generalize w.alloc (.cells #[.int .i64 s, .int .i64 t, .string x] 66) = W at *
  generalize w.heap.size = nb at *
  refine (appNum_any w0 W v l s 8 HC.out a (by omega) (by omega) (by omega)).mono ?_
  rintro r w1 ⟨v1, rfl, hc1, hg1⟩
  have hk1 := hg1.keep5 HC.out.2
  have m1 : w1.cell? ⟨nb, 1, none⟩ = some (.int .i64 t) := (keep5_cell hk1 (by decide) hblk.out 1).trans k1
  have m2 : w1.cell? ⟨nb, 2, none⟩ = some (.string x) := (keep5_cell hk1 (by decide) hblk.out 2).trans k2
  have hb1 := hide (hk1 _ _ _ _ (by decide) hblk.out)
  have HC1 := hide hc1
  have HK1 := hide (HK0.out.trans hg1)
  clear hc1 hk1 hg1 k1 k2 HC HK0 hblk
  go_wp2_with fail
  refine (appNum_any w0 w1 v1 (l ++ num s 8) t 8 HC1.out c (by omega) (by omega) (by simp [num_len]; omega)).mono ?_
  rintro r w2 ⟨v2, rfl, hc2, hg2⟩
  have hk2 := hg2.keep5 HC1.out.2
  have n2 : w2.cell? ⟨nb, 2, none⟩ = some (.string x) := (keep5_cell hk2 (by decide) hb1.out 2).trans m2
  have HC2 := hide hc2
  have HK2 := hide (HK1.out.trans hg2)
  clear hc2 hk2 hg2 m1 m2 HC1 HK1 hb1
  go_wp2_with fail
  refine (appText_any w0 w2 v2 ((l ++ num s 8) ++ num t 8) x HC2.out (by simp [num_len]; omega) (by omega)).mono ?_
  rintro r w3 ⟨v3, rfl, hc3, hk3⟩
  have HC3 := hide hc3
  have HK3 := hide (HK2.out.trans hk3)
  clear hc3 hk3
  go_wp2
  go_ret
  exact ⟨_, rfl, by have := HC3.out; simp only [List.append_assoc] at this; exact this, HK3.out⟩
end Go.Proofs.YtkncboinfcnklaaGreatDoor

namespace Go.Proofs.YtkncboinfcnklaaGreatDoor
open Go.RowKit Go.Deep Go.Proofs.YtkncboinfcnklaaGreatDoor.Mth

/-- A slice of bytes. -/
def RdB (w : World) (v : Value) (l : List Int) : Prop :=
  ∃ (a : Option Addr) (c : Nat), v = .slice a l.length c ∧ l.length ≤ c ∧ c ≤ maxLen ∧ (l = [] ∨ ∃ b o, a = some ⟨b, o, none⟩ ∧ ∀ j, j < l.length → w.cell? ⟨b, o + j, none⟩ = some (.int .u8 (l.getD j 0)))

theorem RdB.below {w w' : World} {v : Value} {l : List Int} (h : RdB w v l) (hb : Below w.heap.size w w') : RdB w' v l := by
  obtain ⟨a, c, rfl, hc, hm, h⟩ := h
  refine ⟨a, c, rfl, hc, hm, ?_⟩
  rcases h with h | ⟨b, o, rfl, h⟩
  · exact Or.inl h
  · refine Or.inr ⟨b, o, rfl, fun j hj => ?_⟩
    have h1 := h j hj
    exact (hb.cell (p := ⟨b, o + j, none⟩) (World.block_lt_of_cell? _ _ h1)).trans h1

theorem rdB_len {w : World} {v : Value} {l : List Int} (h : RdB w v l) : ∃ a c, v = .slice a l.length c ∧ l.length ≤ c ∧ c ≤ maxLen := by
  obtain ⟨a, c, rfl, hc, hm, _⟩ := h
  exact ⟨a, c, rfl, hc, hm⟩

theorem rdB_at {w : World} {a : Option Addr} {n c : Nat} {l : List Int} (h : RdB w (.slice a n c) l) (j : Nat) (hj : j < l.length) : ∃ b o, a = some ⟨b, o, none⟩ ∧ b < w.heap.size ∧ w.cell? ⟨b, o + j, none⟩ = some (.int .u8 (l.getD j 0)) := by
  obtain ⟨a', c', e, hc, hm, h⟩ := h
  injection e with e1 e2 e3
  rcases h with h | ⟨b, o, e4, h⟩
  · subst h; simp at hj
  · exact ⟨b, o, e1.trans e4, World.block_lt_of_cell? _ _ (h j hj), h j hj⟩

theorem rdB_own {w : World} {B : Nat} {v : Value} {l : List Int} (h : w.ownsRow B 5 1 v l.length (l.map eB)) : RdB w v l := by
  by_cases hv : v = .slice none 0 0
  · have hl : l = [] := by
      rcases h.2 with ⟨_, h0⟩ | ⟨g, cap, cur, hv', _⟩
      · exact List.length_eq_zero_iff.1 h0
      · rw [hv] at hv'; cases hv'
    subst hl
    exact ⟨none, 0, hv, Nat.le_refl _, by unfold maxLen; omega, Or.inl rfl⟩
  · obtain ⟨g, cap, rfl, _, _, hn, hm, _, hH⟩ := Lib.holds_of_ownsRow (enc := eB) h hv
    refine ⟨_, cap, rfl, hn, hm, Or.inr ⟨g, 0, rfl, fun j hj => ?_⟩⟩
    have := (hH j (by simpa using hj)).1
    rw [this]
    simp [getElem!_pos, hj, List.getD]

theorem bts_get {l : List Int} (h : Bts l) (k : Nat) : 0 ≤ l.getD k 0 ∧ l.getD k 0 < 256 := by
  by_cases c : k < l.length
  · have := h l[k] (List.getElem_mem c)
    simpa [List.getD, c] using this
  · simp [List.getD, List.getElem?_eq_none (by omega : l.length ≤ k)]

theorem sm_take {l : List Int} {k : Nat} (h : k < l.length) : sm (l.take (k + 1)) = smStep (sm (l.take k)) (l.getD k 0) := by
  rw [List.take_succ_eq_append_getElem h, sm_snoc]
  simp [List.getD, h]

set_option maxRecDepth 100000 in
set_option maxHeartbeats 400000 in
theorem sum_any {v : Value} {l : List Int} {w : World} (h : RdB w v l) (hl : Bts l) :
    Calls Tryz.prog 194 #[v] w fun e w' => e = .returned (.int .i64 (sumv l)) ∧ w' = w := by
  have HR := hide h
  obtain ⟨a, c, rfl, hc, hm⟩ := rdB_len h
  unfold maxLen at hm
  clear h
  generalize hn : l.length = n at *
  have HN := hide hn
  clear hn
  go_enter Tryz.func194, Tryz.ntmps194
  go_wp2_with fail
  go_loop [3, 4, 9] (fun p q i => ∃ k : Nat, k ≤ n ∧ i = .int .i64 k ∧ p = .int .i64 (sm (l.take k)).1 ∧ q = .int .i64 (sm (l.take k)).2) (fun _ _ i => n - (intOf i).toNat)
  case atStart => exact ⟨0, Nat.zero_le _, rfl, rfl, rfl⟩
  case round =>
    obtain ⟨k, hk, rfl, rfl, rfl⟩ := hrel
    have hb := sm_bd (l.take k)
    by_cases hlt : k < n
    · obtain ⟨b, o, rfl, _, hcell⟩ := rdB_at HR.out k (by rw [HN.out]; exact hlt)
      have hst := hide (sm_take (l := l) (k := k) (by rw [HN.out]; exact hlt))
      have hx := bts_get hl k
      generalize l.getD k 0 = x at *
      generalize hS : sm (l.take k) = S at *
      obtain ⟨A, C⟩ := S
      simp only at hb
      obtain ⟨⟨b1, b2⟩, ⟨b3, b4⟩, hbad⟩ := hb
      clear hbad
      obtain ⟨x1, x2⟩ := hx
      clear hS
      go_wp2
      go_round
      case rel => exact ⟨k + 1, by omega, by go_num, by rw [hst.out]; rfl, by rw [hst.out]; rfl⟩
      case measure => simp [intOf]; omega
    · have hfull : l.take k = l := List.take_of_length_le (by rw [HN.out]; omega)
      rw [hfull] at hb ⊢
      have hsv : Hid (sumv l = 65536 * (sm l).2 + (sm l).1) := rfl
      generalize sm l = S at *
      obtain ⟨A, C⟩ := S
      simp only at hb hsv
      obtain ⟨⟨b1, b2⟩, ⟨b3, b4⟩, hbad⟩ := hb
      clear hbad
      clear hfull
      go_wp2
      go_ret
      exact ⟨by rw [hsv.out]; rfl, rfl⟩

/-- A byte of a text, as it stands ahead of the cutting into words. -/
def sml (c : Int) : Int := if 65 ≤ c ∧ c ≤ 90 then c + 32 else if (97 ≤ c ∧ c ≤ 122) ∨ (48 ≤ c ∧ c ≤ 57) then c else 32

theorem sml_bd (c : Int) : 0 ≤ sml c ∧ sml c < 128 := by unfold sml; split <;> (try split) <;> omega

set_option maxHeartbeats 1000000 in
theorem small_any (c : Int) (w : World) (h0 : 0 ≤ c) (h1 : c < 256) : Calls Tryz.prog 160 #[.int .u8 c] w fun e w' => e = .returned (.int .u8 (sml c)) ∧ w' = w := by
  go_enter Tryz.func160, Tryz.ntmps160
  go_wp2
  all_goals go_ret
  all_goals refine ⟨?_, rfl⟩
  all_goals (congr 2; unfold sml)
  all_goals first | (rw [if_pos (by omega)]; first | rfl | omega | (simp; omega)) | (rw [if_neg (by omega), if_pos (by omega)]; first | rfl | omega) | (rw [if_neg (by omega), if_neg (by omega)]; first | rfl | omega)
end Go.Proofs.YtkncboinfcnklaaGreatDoor

namespace Go.Proofs.YtkncboinfcnklaaGreatDoor
open Go.RowKit Go.Deep Go.Proofs.YtkncboinfcnklaaGreatDoor.Mth

def Tab (w : World) : Prop := Lib.TabIs Tryz.prog w "strings.asciiSpace" .u8 Lib.asciiSpaceTab

theorem Tryz.gSpaceSome : (Tryz.prog.globalNamed "strings.asciiSpace").isSome = true := by kernel_rfl
theorem Tryz.gSpace : ∃ g, Tryz.prog.globalNamed "strings.asciiSpace" = some g := Option.isSome_iff_exists.1 Tryz.gSpaceSome

theorem Tab.below {w w' : World} {B : Nat} (h : Tab w) (hb : Below B w w') (hB : w.heap.size ≤ B) : Tab w' := by
  obtain ⟨g, hg⟩ := Tryz.gSpace
  have hlt : g < w.heap.size := by
    unfold Tab Lib.TabIs World.var? at h
    simp only [hg, Option.bind_some] at h
    rcases Nat.lt_or_ge g w.heap.size with c | c
    · exact c
    · rw [Array.getElem?_eq_none c] at h; simp at h
  exact var?_below hb hg (by omega) h

/-- The bytes that are cut into words. -/
def low (s : ByteArray) : ByteArray := strOfNums ((tb s).map sml)
/-- The words of a text. -/
def wd (s : ByteArray) : List ByteArray := mergedS ((Lib.fields (low s).data.toList).map ofL)

theorem tb_get (s : ByteArray) (j : Nat) (hj : j < s.size) : (tb s).getD j 0 = ((s.data.toList.getD j 0).toNat : Int) := by
  have hj' : j < s.data.toList.length := by simpa using hj
  unfold tb
  simp [List.getD, List.getElem?_map, List.getElem?_eq_getElem hj']

theorem bytesWorld_below (w : World) (s : ByteArray) : Below w.heap.size w (Lib.bytesWorld w 5 s) :=
  ⟨rfl, rfl, rfl, by rw [Lib.bytesWorld_size]; omega, fun k hk => Lib.bytesWorld_at_old w 5 s k hk⟩

theorem bytesWorld_frozen (w : World) (s : ByteArray) (j : Nat) (hj : j < s.size) : (Lib.bytesWorld w 5 s).frozen? ⟨w.heap.size, j, none⟩ = false := by
  have h := Lib.bytesWorld_at_new w 5 s
  have hsz : s.size ≤ (Lib.bytesCells w 5 s).size := by unfold Lib.bytesCells; simp
  simp only [World.frozen?, h]
  simp
  omega

theorem low_ascii (s : ByteArray) (j : Nat) (b : UInt8) (h : (low s).data.toList[j]? = some b) : b.toNat < 128 := by
  unfold low strOfNums at h
  simp [List.getElem?_map] at h
  obtain ⟨x, _, rfl⟩ := h
  have := sml_bd x
  have e : (UInt8.ofNat (sml x).toNat).toNat = (sml x).toNat % 256 := by simp
  omega

theorem low_size (s : ByteArray) : (low s).size = s.size := by
  have : (low s).size = (low s).data.toList.length := by simp
  rw [this]
  unfold low strOfNums
  simp [tb]

theorem fieldsGo_flat : ∀ (l cur : List UInt8), (Lib.fieldsGo cur l).flatten.length ≤ cur.length + l.length ∧ (Lib.fieldsGo cur l).length ≤ 1 + l.length
  | [], cur => by
    unfold Lib.fieldsGo
    split <;> simp_all
  | b :: l, cur => by
    unfold Lib.fieldsGo
    split
    · split
      · have := fieldsGo_flat l []
        simp at this ⊢
        omega
      · have := fieldsGo_flat l []
        simp at this ⊢
        omega
    · have := fieldsGo_flat l (cur ++ [b])
      simp at this ⊢
      omega

theorem fields_len (s : List UInt8) : (Lib.fields s).length ≤ 1 + s.length := (fieldsGo_flat s []).2
theorem flat_mem {l : List (List UInt8)} {x : List UInt8} (h : x ∈ l) : x.length ≤ l.flatten.length := by
  induction l with
  | nil => cases h
  | cons y l ih =>
    rw [List.flatten_cons, List.length_append]
    rcases List.mem_cons.1 h with e | e
    · subst e; omega
    · have := ih e; omega

/-- Words are few and short. -/
theorem wd_len (s : ByteArray) : (wd s).length ≤ 1 + s.size := by
  have h1 := mergedS_len ((Lib.fields (low s).data.toList).map ofL)
  have h2 := fields_len (low s).data.toList
  have h3 := low_size s
  have h4 : (low s).data.toList.length = (low s).size := by simp
  unfold wd
  rw [List.length_map] at h1
  omega
theorem wd_size (s : ByteArray) {x : ByteArray} (h : x ∈ wd s) : x.size ≤ s.size := by
  have h1 := ((mergedS_up _).2 x).1 h
  obtain ⟨y, hy, rfl⟩ := List.mem_map.1 h1
  have h2 := (fieldsGo_flat (low s).data.toList []).1
  have h3 := flat_mem hy
  have h4 : (low s).data.toList.length = s.size := by rw [← low_size s]; simp
  have h5 : (ofL y).size = y.length := by simp [ofL]; rfl
  rw [List.length_nil, Nat.zero_add, h4] at h2
  unfold Lib.fields at h3
  omega
theorem rd_fields (w : World) (F : List (List UInt8)) (hF : F.length ≤ 4194304) : Rd (w.alloc (.cells (F.map fun l => Value.string ⟨l.toArray⟩).toArray 9)) (.slice (some ⟨w.heap.size, 0, none⟩) F.length F.length) (F.map ofL) := by
  refine ⟨_, F.length, by rw [List.length_map], by rw [List.length_map]; exact Nat.le_refl _, by unfold maxLen; omega, (fun h => by cases h), Or.inr ⟨w.heap.size, 0, rfl, fun j hj => ?_⟩⟩
  rw [List.length_map] at hj
  have h1 : (w.alloc (.cells (F.map fun l => Value.string ⟨l.toArray⟩).toArray 9)).heap[w.heap.size]? = some (.cells (F.map fun l => Value.string ⟨l.toArray⟩).toArray 9 (0, 0)) := by
    show (w.heap.push _)[w.heap.size]? = _
    rw [Array.getElem?_push, if_pos rfl]
  simp only [World.cell?, h1]
  simp [List.getD, hj, ofL]

theorem fields_at (s : ByteArray) (w : World) (hs : s.size ≤ 1048576) (ha : ∀ (j : Nat) b, s.data.toList[j]? = some b → b.toNat < 128) (ht : Tab w) :
    Calls Tryz.prog 162 #[.string s] w fun e w' => e = .returned (.slice (some ⟨w.heap.size, 0, none⟩) (Lib.fields s.data.toList).length (Lib.fields s.data.toList).length) ∧ w' = w.alloc (.cells ((Lib.fields s.data.toList).map fun l => Value.string ⟨l.toArray⟩).toArray 9) :=
  Any.strings_Fields Tryz.laysFields Tryz.info9 (by kernel_rfl) s w (by omega) ha ht

/-- The row of such a slice holds texts. -/
def T9 (w : World) (v : Value) : Prop := ∀ g o n c, v = .slice (some ⟨g, o, none⟩) n c → ∃ C, w.heap[g]? = some (Obj.cells C 9 (0, 0))
theorem t9_own {w : World} {B n : Nat} {v : Value} {xs : List Value} (h : w.ownsRow B 9 1 v n xs) : T9 w v := by
  intro g o n' c e
  rcases h.2 with ⟨h0, _⟩ | ⟨g', cap, cur, hv, _, hg, _⟩
  · rw [h0] at e; cases e
  · rw [hv] at e
    injection e with e _ _
    injection e with e
    injection e with e _ _
    subst e
    exact ⟨cur, hg⟩
def RdT (w : World) (v : Value) (l : List ByteArray) : Prop := Rd w v l ∧ T9 w v
theorem RdT.below {w w' : World} {v : Value} {l : List ByteArray} (h : RdT w v l) (hb : Below w.heap.size w w') : RdT w' v l := by
  refine ⟨h.1.below hb, fun g o n c e => ?_⟩
  obtain ⟨C, hC⟩ := h.2 g o n c e
  exact ⟨C, by rw [hb.block g (Array.getElem?_eq_some_iff.1 hC).1]; exact hC⟩
/-- Bytes may grow beside. -/
theorem RdT.keep5 {w w' : World} {v : Value} {l : List ByteArray} (h : RdT w v l) (hk : Keep5 w w') : RdT w' v l := by
  have hT : T9 w' v := fun g o n c e => by
    obtain ⟨C, hC⟩ := h.2 g o n c e
    exact ⟨C, hk _ _ _ _ (by decide) hC⟩
  refine ⟨?_, hT⟩
  obtain ⟨a, c, rfl, hc, hm, hz, h'⟩ := h.1
  refine ⟨a, c, rfl, hc, hm, hz, ?_⟩
  rcases h' with h' | ⟨b, o, rfl, h'⟩
  · exact Or.inl h'
  · obtain ⟨C, hC⟩ := h.2 b o _ c rfl
    refine Or.inr ⟨b, o, rfl, fun j hj => ?_⟩
    rw [keep5_cell hk (by decide) hC]
    exact h' j hj

theorem own_mono {w : World} {B B' n : Nat} {e : TypeId} {sz : Nat} {v : Value} {xs : List Value} (h : w.ownsRow B e sz v n xs) (hb : B' ≤ B) : w.ownsRow B' e sz v n xs := by
  refine ⟨h.1, h.2.imp id ?_⟩
  rintro ⟨g, cap, cur, hv, h1, h2⟩
  exact ⟨g, cap, cur, hv, Nat.le_trans hb h1, h2⟩

set_option maxRecDepth 100000 in
set_option maxHeartbeats 1000000 in
theorem words_all (s : ByteArray) (w : World) (ht : Tab w) (hs : s.size ≤ 1048576) :
    Calls Tryz.prog 100 #[.string s] w fun e w' => ∃ v', e = .returned v' ∧ Cur w w' v' (wd s) := by
  have HT := hide ht
  clear ht
  have hcv := Lib.run_convert_string_bytes (P := Tryz.prog) w 9 158 5 s (u := .string) Tryz.underlying9 Tryz.underlying158 Tryz.underlying5
  have hB0 := bytesWorld_below w s
  have hcell : ∀ j, j < s.size → (Lib.bytesWorld w 5 s).cell? ⟨w.heap.size, j, none⟩ = some (.int .u8 ((tb s).getD j 0)) := fun j hj => by rw [Lib.bytesWorld_cell w 5 s j hj, tb_get s j hj]
  have hfr := bytesWorld_frozen w s
  have hsz : w.heap.size < (Lib.bytesWorld w 5 s).heap.size := by rw [Lib.bytesWorld_size]; omega
  have HI : Hid (Below w.heap.size w (Lib.bytesWorld w 5 s) ∧ (∀ j, j < s.size → (Lib.bytesWorld w 5 s).cell? ⟨w.heap.size, j, none⟩ = some (.int .u8 (if j < 0 then sml ((tb s).getD j 0) else (tb s).getD j 0))) ∧ (∀ j, j < s.size → (Lib.bytesWorld w 5 s).frozen? ⟨w.heap.size, j, none⟩ = false)) := ⟨hB0, fun j hj => by rw [if_neg (by omega)]; exact hcell j hj, hfr⟩
  have hge := grownCap_ge w s.size 0 5
  generalize grownCap w s.size 0 5 = gc at *
  generalize hW : Lib.bytesWorld w 5 s = W at *
  generalize hnb0 : w.heap.size = nb at *
  have HNB := hide hnb0
  clear hB0 hcell hfr hsz hnb0
  go_enter Tryz.func100, Tryz.ntmps100
  go_wp2_with fail
  clear hcv hW
  go_loopw [10] (fun i wr => ∃ k : Nat, k ≤ s.size ∧ i = .int .i64 k ∧ Below nb w wr ∧ (∀ j, j < s.size → wr.cell? ⟨nb, j, none⟩ = some (.int .u8 (if j < k then sml ((tb s).getD j 0) else (tb s).getD j 0))) ∧ (∀ j, j < s.size → wr.frozen? ⟨nb, j, none⟩ = false)) (fun i _ => s.size - (intOf i).toNat)
  case atStart => exact ⟨0, Nat.zero_le _, rfl, HI.out⟩
  case round =>
    obtain ⟨k, hk, rfl, hb, hcs, hfs⟩ := hrel
    by_cases hlt : k < s.size
    · have hck := hcs k hlt
      rw [if_neg (by omega)] at hck
      have hfk := hfs k hlt
      have hx := bts_get (tb_bts s) k
      have HCS := hide hcs
      have HFS := hide hfs
      have HB := hide hb
      generalize hxx : (tb s).getD k 0 = x at *
      have HX := hide hxx
      obtain ⟨x1, x2⟩ := hx
      clear hcs hfs hb HI hxx
      go_wp2_with (go_at_call 160; refine (small_any x _ x1 x2).mono ?_; rintro e w' ⟨rfl, hw⟩; rw [hw]; clear hw w')
      go_roundw
      case rel =>
        refine ⟨k + 1, by omega, by go_num, HB.out.setCell (Nat.le_refl _) _, fun j hj => ?_, fun j hj => by rw [World.frozen?_setCell]; exact HFS.out j hj⟩
        by_cases c : j = k
        · subst c
          rw [if_pos (by omega), World.cell?_setCell_same' _ _ _ (by rw [hck]; rfl), HX.out]
        · rw [show (wr.setCell ⟨nb, k, none⟩ (Value.int IntKind.u8 (sml x))).cell? ⟨nb, j, none⟩ = wr.cell? ⟨nb, j, none⟩ from World.cell?_setCell_other _ _ _ _ (by intro e; injection e with _ e _; omega), HCS.out j hj]
          by_cases d : j < k
          · rw [if_pos d, if_pos (by omega)]
          · rw [if_neg d, if_neg (by omega)]
      case measure => simp [intOf]; omega
    · have hke : k = s.size := by omega
      subst hke
      have hcv2 := run_convert_bytes_arg (P := Tryz.prog) wr 158 5 Tryz.underlying158 Tryz.underlying5 nb 0 s.size gc ((tb s).map sml) (by simp [tb_len]) (fun j hj => by
        rw [Nat.zero_add, hcs j hj, if_pos hj]
        have hj' : j < (tb s).length := by rw [tb_len]; exact hj
        simp [List.getD, List.getElem?_map, List.getElem?_eq_getElem hj']) 9 Tryz.underlying9
      have hlow : strOfNums ((tb s).map sml) = low s := rfl
      rw [hlow] at hcv2
      have CF := hide (fields_at (low s) wr (by rw [low_size]; exact hs) (low_ascii s) (HT.out.below hb (Nat.le_of_eq HNB.out)))
      have hfl : (Lib.fields (low s).data.toList).length ≤ 1048577 := by
        have h2 := fields_len (low s).data.toList
        have h4 : (low s).data.toList.length = s.size := by rw [← low_size s]; simp
        omega
      have RF := hide (rd_fields wr (Lib.fields (low s).data.toList) (by omega))
      have hbw := hide (hb.trans ((below_alloc wr (.cells ((Lib.fields (low s).data.toList).map fun l => Value.string ⟨l.toArray⟩).toArray 9)).mono (by have := hb.size; have := HNB.out; omega)))
      have hwd : Hid (wd s = mergedS ((Lib.fields (low s).data.toList).map ofL)) := rfl
      generalize Lib.fields (low s).data.toList = FL at *
      generalize low s = ls at *
      clear hcs hfs HI hlow hlt
      go_wp2_with fail
      refine CF.out.mono ?_
      rintro e w2 ⟨rfl, hw2⟩
      rw [← hw2] at RF hbw
      clear hw2 hcv2 CF
      have MG := hide (merge_any (rdL_one RF.out) (by simpa using (by omega : FL.length ≤ 4194304)))
      go_wp2_with fail
      refine MG.out.mono ?_
      rintro e w3 ⟨v3, rfl, hc3⟩
      have HC3 := hide hc3
      clear hc3 MG
      go_wp2
      go_ret
      have hz0 := HNB.out
      have hz1 := hbw.out.size
      have hz2 := (below_alloc w2 (Obj.cells #[.slice (some ⟨wr.heap.size, 0, none⟩) FL.length FL.length] 58)).size
      exact ⟨_, rfl, hz0 ▸ hbw.out.trans (((below_alloc w2 _).trans (HC3.out.1.mono (below_alloc w2 _).size)).mono (by omega)), by rw [hwd.out]; simpa using own_mono HC3.out.2 (by omega)⟩

theorem words_any (s : ByteArray) (w : World) (ht : Tab w) (hs : s.size ≤ 60) :
    Calls Tryz.prog 100 #[.string s] w fun e w' => ∃ v', e = .returned v' ∧ Below w.heap.size w w' ∧ RdT w' v' (wd s) := by
  refine (words_all s w ht (by omega)).mono ?_
  rintro e w' ⟨v', rfl, hc⟩
  exact ⟨v', rfl, hc.1, rd_own hc.2, t9_own hc.2⟩
end Go.Proofs.YtkncboinfcnklaaGreatDoor

namespace Go.Proofs.YtkncboinfcnklaaGreatDoor
open Go.RowKit Go.Deep Go.Proofs.YtkncboinfcnklaaGreatDoor.Mth

/-- The lists of words, in one block. -/
def LB (w : World) (lb : Nat) (Ls : List (List ByteArray)) : Prop :=
  ∃ C : Array Value, w.heap[lb]? = some (Obj.cells C 58 (0, 0)) ∧ C.size = Ls.length ∧ ∀ i, i < Ls.length → ∃ vi, C[i]? = some vi ∧ RdT w vi (Ls.getD i [])

def hv (Ls : List (List ByteArray)) (x : ByteArray) (i : Nat) : Bool := decide ((Ls.getD i []).head? = some x)
def havTo (Ls : List (List ByteArray)) (x : ByteArray) (k : Nat) : List Int := ((List.range k).filter (hv Ls x)).map (fun i : Nat => (i : Int))
def rstTo (Ls : List (List ByteArray)) (x : ByteArray) (k : Nat) : List (List ByteArray) := (List.range Ls.length).map (fun i => if i < k ∧ hv Ls x i = true then (Ls.getD i []).tail else Ls.getD i [])

theorem rstTo_len (Ls : List (List ByteArray)) (x : ByteArray) (k : Nat) : (rstTo Ls x k).length = Ls.length := by simp [rstTo]
theorem rstTo_get {Ls : List (List ByteArray)} {x : ByteArray} {k i : Nat} (h : i < Ls.length) : (rstTo Ls x k).getD i [] = if i < k ∧ hv Ls x i = true then (Ls.getD i []).tail else Ls.getD i [] := by
  simp [rstTo, List.getD, h]
theorem rstTo_zero (Ls : List (List ByteArray)) (x : ByteArray) : rstTo Ls x 0 = Ls := by
  apply List.ext_getElem
  · simp [rstTo]
  · intro i h1 h2
    simp [rstTo, List.getD, h2]
theorem havTo_succ (Ls : List (List ByteArray)) (x : ByteArray) (k : Nat) : havTo Ls x (k + 1) = havTo Ls x k ++ (if hv Ls x k = true then [(k : Int)] else []) := by
  unfold havTo
  rw [List.range_succ, List.filter_append, List.map_append]
  by_cases c : hv Ls x k = true <;> simp [c]
theorem havTo_len (Ls : List (List ByteArray)) (x : ByteArray) (k : Nat) : (havTo Ls x k).length ≤ k := by
  unfold havTo
  rw [List.length_map]
  exact Nat.le_trans (List.length_filter_le _ _) (by simp)
theorem havTo_bts (Ls : List (List ByteArray)) (x : ByteArray) (k : Nat) (hk : k ≤ 256) : Bts (havTo Ls x k) := by
  intro y hy
  unfold havTo at hy
  obtain ⟨i, hi, rfl⟩ := List.mem_map.1 hy
  have := List.mem_range.1 (List.mem_filter.1 hi).1
  omega

/-- A cell of a text lies in no block of lists. -/
theorem rd_kept {w w' : World} {lb : Nat} {C : Array Value} {v : Value} {l : List ByteArray} (hC : w.heap[lb]? = some (Obj.cells C 58 (0, 0))) (hsl : ∀ (i : Nat) (u : Value), C[i]? = some u → ∃ a n c, u = Value.slice a n c) (h : RdT w v l) (hb : ∀ k, k < w.heap.size → k ≠ lb → w'.heap[k]? = w.heap[k]?) : RdT w' v l := by
  obtain ⟨h, hT⟩ := h
  refine ⟨?_, fun g o n c e => by
    obtain ⟨C', h'⟩ := hT g o n c e
    refine ⟨C', ?_⟩
    rw [hb g (Array.getElem?_eq_some_iff.1 h').1 ?_]
    · exact h'
    · rintro rfl
      rw [hC] at h'
      injection h' with h'
      injection h' with _ h' _
      exact absurd h' (by decide)⟩
  obtain ⟨a, c, rfl, hc, hm, hz, h⟩ := h
  refine ⟨a, c, rfl, hc, hm, hz, ?_⟩
  rcases h with h | ⟨b, o, rfl, h⟩
  · exact Or.inl h
  · refine Or.inr ⟨b, o, rfl, fun j hj => ?_⟩
    have h1 := h j hj
    have hne : b ≠ lb := by
      rintro rfl
      simp only [World.cell?, hC] at h1
      simp at h1
      obtain ⟨_, _, _, e⟩ := hsl _ _ h1
      cases e
    rw [World.cell?_of_block (w := w) (a := ⟨b, o + j, none⟩) (hb b (World.block_lt_of_cell? _ _ h1) hne)]
    exact h1

theorem LB.slices {w : World} {lb : Nat} {Ls : List (List ByteArray)} (h : LB w lb Ls) : ∃ C : Array Value, w.heap[lb]? = some (Obj.cells C 58 (0, 0)) ∧ C.size = Ls.length ∧ (∀ i, i < Ls.length → ∃ vi, C[i]? = some vi ∧ RdT w vi (Ls.getD i [])) ∧ ∀ (i : Nat) (u : Value), C[i]? = some u → ∃ a n c, u = Value.slice a n c := by
  obtain ⟨C, h1, h2, h3⟩ := h
  refine ⟨C, h1, h2, h3, fun i u hu => ?_⟩
  have hi : i < Ls.length := by rw [← h2]; exact (Array.getElem?_eq_some_iff.1 hu).1
  obtain ⟨vi, e, hr⟩ := h3 i hi
  rw [hu] at e
  injection e with e
  obtain ⟨a, c, rfl, _⟩ := rd_len hr.1
  exact ⟨a, _, c, e⟩

/-- The block of lists as it stands now; what the lists hold was there at first. -/
def LB2 (w wr : World) (lb : Nat) (Ls : List (List ByteArray)) : Prop :=
  ∃ C : Array Value, wr.heap[lb]? = some (Obj.cells C 58 (0, 0)) ∧ C.size = Ls.length ∧ ∀ i, i < Ls.length → ∃ vi, C[i]? = some vi ∧ RdT w vi (Ls.getD i [])

theorem LB2.at {w wr : World} {lb : Nat} {Ls : List (List ByteArray)} (h : LB2 w wr lb Ls) (i : Nat) (hi : i < Ls.length) : ∃ vi, wr.cell? ⟨lb, i, none⟩ = some vi ∧ wr.frozen? ⟨lb, i, none⟩ = false ∧ RdT w vi (Ls.getD i []) := by
  obtain ⟨C, h1, h2, h3⟩ := h
  obtain ⟨vi, e, hr⟩ := h3 i hi
  refine ⟨vi, ?_, ?_, hr⟩
  · simp only [World.cell?, h1]; simpa using e
  · simp [World.frozen?, h1]

theorem LB2.put {w wr : World} {lb : Nat} {Ls Ms : List (List ByteArray)} {k : Nat} {u : Value} (h : LB2 w wr lb Ls) (hM : Ms.length = Ls.length) (hu : RdT w u (Ms.getD k [])) (ho : ∀ i, i < Ls.length → i ≠ k → Ms.getD i [] = Ls.getD i []) : LB2 w (wr.setCell ⟨lb, k, none⟩ u) lb Ms := by
  obtain ⟨C, h1, h2, h3⟩ := h
  have hlb : (wr.setCell ⟨lb, k, none⟩ u).heap[lb]? = some (Obj.cells (C.setIfInBounds k u) 58 (0, 0)) := by
    simp [World.setCell, Array.getElem?_modify, h1]
  refine ⟨C.setIfInBounds k u, hlb, by simp [h2, hM], fun i hi => ?_⟩
  rw [hM] at hi
  by_cases c : i = k
  · subst c
    exact ⟨u, by simp [h2, hi], hu⟩
  · obtain ⟨vi, e, hr⟩ := h3 i hi
    refine ⟨vi, ?_, ?_⟩
    · rw [Array.getElem?_setIfInBounds_ne (by omega)]; exact e
    · rw [ho i hi c]; exact hr

theorem LB2.out {w wr : World} {lb : Nat} {Ls Ms : List (List ByteArray)} (h0 : LB w lb Ms) (h : LB2 w wr lb Ls) (hg : w.grownBy wr (some lb)) : LB wr lb Ls := by
  obtain ⟨C0, g1, g2, g3, g4⟩ := h0.slices
  obtain ⟨C, h1, h2, h3⟩ := h
  exact ⟨C, h1, h2, fun i hi => by
    obtain ⟨vi, e, hr⟩ := h3 i hi
    exact ⟨vi, e, rd_kept g1 g4 hr (fun k hk hne => hg.block k hk (by intro e; injection e with e; exact hne e))⟩⟩

theorem rd_now {w wr : World} {lb : Nat} {Ms : List (List ByteArray)} {v : Value} {l : List ByteArray} (h0 : LB w lb Ms) (hr : RdT w v l) (hg : w.grownBy wr (some lb)) : RdT wr v l := by
  obtain ⟨C0, g1, g2, g3, g4⟩ := h0.slices
  exact rd_kept g1 g4 hr (fun k hk hne => hg.block k hk (by intro e; injection e with e; exact hne e))

theorem rstTo_no {Ls : List (List ByteArray)} {x : ByteArray} {k : Nat} (h : hv Ls x k = false) : rstTo Ls x (k + 1) = rstTo Ls x k := by
  unfold rstTo
  apply List.map_congr_left
  intro i _
  by_cases c : i = k
  · subst c; simp [h]
  · have e : (i < k + 1) ↔ (i < k) := by omega
    simp [e]

/-- An append to a row of the call's own: the rest of old memory. -/
theorem grown_own {w wr w3 : World} {lb : Nat} {v : Value} {o : Obj} {n : Nat} {xs : List Value} (hg : w.grownBy wr (some lb)) (ho : wr.ownsRow w.heap.size 5 1 v n xs) (h3 : (wr.alloc o).grownBy w3 v.ownBlock) : w.grownBy w3 (some lb) ∧ ∀ k, k < w.heap.size → w3.heap[k]? = wr.heap[k]? := by
  have hk : ∀ k, k < w.heap.size → w3.heap[k]? = wr.heap[k]? := fun k hk => by
    have hs := hg.size
    rw [h3.block k (by simp; omega) ?_, Below.heap_alloc wr o k (by omega)]
    intro e
    rcases ho.2 with ⟨h0, _⟩ | ⟨g, cap, cur, hv, hb, _⟩
    · subst h0; simp [Value.ownBlock] at e
    · subst hv; simp [Value.ownBlock] at e; omega
  refine ⟨⟨h3.os.trans hg.os, h3.tape.trans hg.tape, h3.output.trans hg.output, ?_, fun k hk' hne => (hk k hk').trans (hg.block k hk' hne)⟩, hk⟩
  have h1 := h3.size
  have h2 := hg.size
  simp at h1
  omega

theorem grown_put {w w3 : World} {lb k : Nat} {u : Value} (h : w.grownBy w3 (some lb)) : w.grownBy (w3.setCell ⟨lb, k, none⟩ u) (some lb) := by
  refine ⟨h.os, h.tape, h.output, by have := h.size; simpa [World.setCell] using this, fun j hj hne => ?_⟩
  rw [← h.block j hj hne]
  have : j ≠ lb := fun e => hne (by rw [e])
  simp [World.setCell, Array.getElem?_modify]
  intro e; exact absurd e.symm this

theorem LB2.keep {w wr w3 : World} {lb : Nat} {Ls : List (List ByteArray)} (h : LB2 w wr lb Ls) (hk : w3.heap[lb]? = wr.heap[lb]?) : LB2 w w3 lb Ls := by
  obtain ⟨C, h1, h2, h3⟩ := h
  exact ⟨C, hk.trans h1, h2, h3⟩

theorem own_put {w3 : World} {b0 ti z lb k n : Nat} {u v : Value} {xs : List Value} (hlb : lb < b0) (h : w3.ownsRow b0 ti z v n xs) : (w3.setCell ⟨lb, k, none⟩ u).ownsRow b0 ti z v n xs := by
  exact ownsRow_setCell_below h hlb u

set_option maxRecDepth 100000 in
set_option maxHeartbeats 1000000 in
theorem takeFirst_any (lb n c : Nat) (Ls : List (List ByteArray)) (x : ByteArray) (w : World) (h : LB w lb Ls) (hn : Ls.length = n) (hnc : n ≤ c) (h64 : n ≤ 64) :
    Calls Tryz.prog 243 #[.slice (some ⟨lb, 0, none⟩) n c, .string x] w fun e w' => ∃ v', e = .returned v' ∧ w.grownBy w' (some lb) ∧ LB w' lb (rstTo Ls x n) ∧ w'.ownsRow w.heap.size 5 1 v' (havTo Ls x n).length ((havTo Ls x n).map eB) := by
  have HL := hide h
  have hlb : lb < w.heap.size := by obtain ⟨C, h1, _⟩ := h; exact (Array.getElem?_eq_some_iff.1 h1).1
  have HN := hide hn
  clear h hn
  obtain ⟨i0, hi0, hz0, hz1, hz2⟩ := info_parts Tryz.info5
  go_enter Tryz.func243, Tryz.ntmps243
  go_wp2_with fail
  go_loopw [5, 10] (fun v i wr => ∃ k : Nat, k ≤ n ∧ i = .int .i64 k ∧ w.grownBy wr (some lb) ∧ LB2 w wr lb (rstTo Ls x k) ∧ wr.ownsRow w.heap.size 5 1 v (havTo Ls x k).length ((havTo Ls x k).map eB)) (fun _ i _ => n - (intOf i).toNat)
  case atStart => exact ⟨0, Nat.zero_le _, rfl, ⟨rfl, rfl, rfl, Nat.le_refl _, fun _ _ _ => rfl⟩, by rw [rstTo_zero]; exact HL.out, World.ownsRow_nil _ _ _ _⟩
  case round =>
    obtain ⟨k, hk, rfl, hg, hL, hown⟩ := hrel
    by_cases hlt : k < n
    · obtain ⟨vi, hcell, hfrz, hrd0⟩ := hL.at k (by rw [rstTo_len, HN.out]; exact hlt)
      rw [rstTo_get (by rw [HN.out]; exact hlt), if_neg (by omega)] at hrd0
      have hrd := (rd_now HL.out hrd0 hg).1
      have hhv : Hid (hv Ls x k = decide ((Ls.getD k []).head? = some x)) := rfl
      have hsucc := hide (havTo_succ Ls x k)
      have hhl := havTo_len Ls x k
      have HG := hide hg
      have HLL := hide hL
      have HOWN := hide hown
      have HRD0 := hide hrd0
      have hsz := hg.size
      clear hg hL hown hrd0
      generalize hlk : Ls.getD k [] = lk at *
      have HLK := hide hlk
      clear hlk
      cases lk with
      | nil =>
        obtain ⟨a1, c1, rfl, _, _⟩ := rd_len hrd
        simp only [List.length_nil] at hcell
        clear hrd
        have HNO : Hid (hv Ls x k = false) := by show hv Ls x k = false; rw [hhv.out]; simp
        go_wp2
        go_roundw
        case rel => exact ⟨k + 1, by omega, by go_num, HG.out, by rw [rstTo_no HNO.out]; exact HLL.out, by rw [hsucc.out, HNO.out]; simpa using HOWN.out⟩
        case measure => simp [intOf]; omega
      | cons y ys =>
        obtain ⟨b, o, c1, rfl, hc1, hcm1, cy, _⟩ := rd_cons hrd
        unfold maxLen at hcm1
        have px : (0 : Int) < (ys.length : Int) + 1 := by omega
        by_cases hxy : y = x
        · subst hxy
          have HYES : Hid (hv Ls y k = true) := by show hv Ls y k = true; rw [hhv.out]; simp
          obtain ⟨b', o', c', e', _, _, _, hrt⟩ := rd_cons HRD0.out.1
          injection e' with e1 e2 e3
          injection e1 with e1
          injection e1 with e4 e5 e6
          subst e3 e4 e5
          have HRT : Hid (RdT w (.slice (if c1 = 1 then some ⟨b, o, none⟩ else some ⟨b, o + 1, none⟩) ys.length (c1 - 1)) ys) := ⟨hrt, fun g o' n' c' e => by
            obtain ⟨C, hC⟩ := HRD0.out.2 b o _ _ rfl
            refine ⟨C, ?_⟩
            by_cases q : c1 = 1
            · rw [if_pos q] at e; injection e with e _ _; injection e with e; injection e with e _ _; rw [← e]; exact hC
            · rw [if_neg q] at e; injection e with e _ _; injection e with e; injection e with e _ _; rw [← e]; exact hC⟩
          have hlb' : lb < wr.heap.size := by omega
          clear hrd hrt e2
          by_cases cc1 : c1 = 1
          all_goals
            go_wp2_with (at_builtin; refine wpList_append_own _ rfl _ _ 158 rfl w.heap.size 5 i0 (.int .u8 0) 1 1 Tryz.underlying158 hi0 hz0 hz1 hz2 rfl (by decide) _ _ _ rfl (HOWN.out.alloc _) ⟨wr.heap.size, 0, none⟩ 1 1 [.int .u8 (k : Int)] rfl rfl (cell_one_new _ _ _) (by intro u hu; simp at hu; subst hu; rfl) (by unfold maxLen; omega) (by omega) (by simp; omega) ?_; intro v3 w3 hown3 hgrow3 _; have hgo := grown_own HG.out HOWN.out hgrow3; have d0 : w3.cell? ⟨lb, k, none⟩ = some (.slice (some ⟨b, o, none⟩) (ys.length + 1) c1) := (World.cell?_of_block (w := wr) (a := ⟨lb, k, none⟩) (hgo.2 lb hlb)).trans hcell; have d1 : w3.frozen? ⟨lb, k, none⟩ = false := (World.frozen?_of_block (w := wr) (a := ⟨lb, k, none⟩) (hgo.2 lb hlb)).trans hfrz; have HGO := hide hgo; have HO3 := hide hown3; clear hown3 hgrow3 hgo)
            go_wp2
            go_roundw
            case rel =>
              refine ⟨k + 1, by omega, by go_num, ?_, ?_, ?_⟩
              · exact grown_put HGO.out.1
              · refine LB2.put (LB2.keep HLL.out (HGO.out.2 lb hlb)) (by rw [rstTo_len, rstTo_len]) ?_ ?_
                · rw [rstTo_get (by rw [HN.out]; exact hlt), if_pos ⟨by omega, HYES.out⟩, HLK.out]
                  have := HRT.out
                  first | exact this | (simp [cc1] at this ⊢; exact this)
                · intro i hi hne
                  rw [rstTo_len] at hi
                  rw [rstTo_get hi, rstTo_get hi]
                  have e : (i < k + 1) ↔ (i < k) := by omega
                  simp only [e]
              · rw [hsucc.out, if_pos HYES.out, List.map_append, List.length_append]
                exact own_put hlb HO3.out
            case measure => simp [intOf]; omega
        · have HNO : Hid (hv Ls x k = false) := by show hv Ls x k = false; rw [hhv.out]; simpa using hxy
          have hbeq : (y.toList == x.toList) = false := by rw [eq_eq]; simpa using hxy
          clear hrd
          go_wp2
          go_roundw
          case rel => exact ⟨k + 1, by omega, by go_num, HG.out, by rw [rstTo_no HNO.out]; exact HLL.out, by rw [hsucc.out, HNO.out]; simpa using HOWN.out⟩
          case measure => simp [intOf]; omega
    · have hke : k = n := by omega
      subst hke
      have HG := hide hg
      have HLL := hide hL
      have HOWN := hide hown
      clear hg hL hown
      go_wp2
      go_ret
      exact ⟨_, rfl, HG.out, LB2.out HL.out HLL.out HG.out, HOWN.out⟩
end Go.Proofs.YtkncboinfcnklaaGreatDoor

namespace Go.Proofs.YtkncboinfcnklaaGreatDoor
open Go.RowKit Go.Deep Go.Proofs.YtkncboinfcnklaaGreatDoor.Mth

/-- The words of each entry. -/
def ws (l : List Ent) : List (List ByteArray) := l.map (fun e => wd e.text)
def mw (l : List Ent) : List ByteArray := mergedS (ws l).flatten
/-- The words, and the entries that have them. -/
def idxGo : List ByteArray → List (List ByteArray) → List Int
  | [], _ => []
  | x :: xs, Ls => ((((x.size : Int) % 256) :: tb x) ++ ((((havTo Ls x Ls.length).length : Int) % 256) :: havTo Ls x Ls.length)) ++ idxGo xs (rstTo Ls x Ls.length)
def idx (l : List Ent) : List Int := num (mw l).length 2 ++ idxGo (mw l) (ws l)

theorem flat_bd : ∀ (l : List Ent), (∀ e ∈ l, e.text.size ≤ 60) → (ws l).flatten.length ≤ 61 * l.length
  | [], _ => by simp [ws]
  | e :: l, h => by
    have h1 := flat_bd l (fun x hx => h x (by simp [hx]))
    have h2 := wd_len e.text
    have h3 := h e (by simp)
    simp only [ws, List.map_cons, List.flatten_cons, List.length_append, List.length_cons] at h1 ⊢
    omega
theorem mw_len (l : List Ent) (h : ∀ e ∈ l, e.text.size ≤ 60) : (mw l).length ≤ 61 * l.length := Nat.le_trans (mergedS_len _) (flat_bd l h)
theorem mw_size (l : List Ent) (h : ∀ e ∈ l, e.text.size ≤ 60) {x : ByteArray} (hx : x ∈ mw l) : x.size ≤ 60 := by
  have h1 := ((mergedS_up _).2 x).1 hx
  obtain ⟨L, hL, h2⟩ := List.mem_flatten.1 h1
  obtain ⟨e, he, rfl⟩ := List.mem_map.1 hL
  exact Nat.le_trans (wd_size e.text h2) (h e he)

theorem idxGo_bts : ∀ (xs : List ByteArray) (Ls : List (List ByteArray)), Ls.length ≤ 64 → Bts (idxGo xs Ls)
  | [], _, _ => bts_nil
  | x :: xs, Ls, h => by
    refine bts_append (bts_append ?_ ?_) (idxGo_bts xs _ (by rw [rstTo_len]; exact h))
    · exact bts_append (a := [_]) (bts_one (by omega) (by omega)) (tb_bts x)
    · exact bts_append (a := [_]) (bts_one (by omega) (by omega)) (havTo_bts _ _ _ (by omega))
theorem idx_bts (l : List Ent) (h : l.length ≤ 64) : Bts (idx l) := bts_append (num_bts _ _) (idxGo_bts _ _ (by simpa [ws] using h))

/-! ### the lists, laid down one by one -/
def lsTo (l : List Ent) (k : Nat) : List (List ByteArray) := (List.range l.length).map (fun i => if i < k then wd (l.getD i e0).text else [])
theorem lsTo_len (l : List Ent) (k : Nat) : (lsTo l k).length = l.length := by simp [lsTo]
theorem lsTo_get {l : List Ent} {k i : Nat} (h : i < l.length) : (lsTo l k).getD i [] = if i < k then wd (l.getD i e0).text else [] := by simp [lsTo, List.getD, h]
theorem lsTo_full (l : List Ent) : lsTo l l.length = ws l := by
  apply List.ext_getElem
  · simp [lsTo, ws]
  · intro i h1 h2
    simp [lsTo] at h1
    simp [lsTo, ws, List.getD, h1]

theorem rdT_nil (w : World) : RdT w (.slice none 0 0) [] := ⟨⟨none, 0, rfl, Nat.le_refl _, by unfold maxLen; omega, fun _ => rfl, Or.inl rfl⟩, fun _ _ _ _ e => by cases e⟩

theorem LB.below {w w' : World} {lb : Nat} {Ls : List (List ByteArray)} (h : LB w lb Ls) (hb : Below w.heap.size w w') : LB w' lb Ls := by
  obtain ⟨C, h1, h2, h3⟩ := h
  refine ⟨C, by rw [hb.block lb (Array.getElem?_eq_some_iff.1 h1).1]; exact h1, h2, fun i hi => ?_⟩
  obtain ⟨vi, e, hr⟩ := h3 i hi
  exact ⟨vi, e, hr.below hb⟩
theorem LB.keep5 {w w' : World} {lb : Nat} {Ls : List (List ByteArray)} (h : LB w lb Ls) (hk : Keep5 w w') : LB w' lb Ls := by
  obtain ⟨C, h1, h2, h3⟩ := h
  refine ⟨C, hk _ _ _ _ (by decide) h1, h2, fun i hi => ?_⟩
  obtain ⟨vi, e, hr⟩ := h3 i hi
  exact ⟨vi, e, hr.keep5 hk⟩
theorem LB.put {w : World} {lb : Nat} {Ls Ms : List (List ByteArray)} {k : Nat} {u : Value} (h : LB w lb Ls) (hM : Ms.length = Ls.length) (hu : RdT w u (Ms.getD k [])) (ho : ∀ i, i < Ls.length → i ≠ k → Ms.getD i [] = Ls.getD i []) : LB (w.setCell ⟨lb, k, none⟩ u) lb Ms := by
  have h2 : LB2 w (w.setCell ⟨lb, k, none⟩ u) lb Ms := LB2.put (wr := w) h hM hu ho
  exact LB2.out h h2 (grown_put ⟨rfl, rfl, rfl, Nat.le_refl _, fun _ _ _ => rfl⟩)
theorem LB.at {w : World} {lb : Nat} {Ls : List (List ByteArray)} (h : LB w lb Ls) (i : Nat) (hi : i < Ls.length) : (∃ vi, w.cell? ⟨lb, i, none⟩ = some vi) ∧ w.frozen? ⟨lb, i, none⟩ = false := by
  obtain ⟨vi, h1, h2, _⟩ := LB2.at (wr := w) h i hi
  exact ⟨⟨vi, h1⟩, h2⟩
theorem LB.rdL {w : World} {lb : Nat} {Ls : List (List ByteArray)} (h : LB w lb Ls) (hm : Ls.length ≤ 64) : RdL w (.slice (some ⟨lb, 0, none⟩) Ls.length Ls.length) Ls := by
  refine ⟨_, Ls.length, rfl, Nat.le_refl _, by unfold maxLen; omega, Or.inr ⟨lb, 0, rfl, fun i hi => ?_⟩⟩
  obtain ⟨vi, h1, h2, h3⟩ := LB2.at (wr := w) h i hi
  exact ⟨vi, by simpa using h1, h3.1⟩
/-- The lists as they are made. -/
theorem lb_new (w : World) (l : List Ent) (C : Array Value) (hC : C = Array.replicate l.length (Value.slice none 0 0)) : LB (w.alloc (.cells C 58)) w.heap.size (lsTo l 0) := by
  refine ⟨C, ?_, by rw [hC, lsTo_len]; simp, fun i hi => ?_⟩
  · show (w.heap.push _)[w.heap.size]? = _
    rw [Array.getElem?_push, if_pos rfl]
  · rw [lsTo_len] at hi
    refine ⟨.slice none 0 0, by rw [hC]; simp [hi], ?_⟩
    rw [lsTo_get hi, if_neg (by omega)]
    exact rdT_nil _

theorem own_ne_lb {w : World} {lb B n : Nat} {v : Value} {xs : List Value} {Ls : List (List ByteArray)} (h : LB w lb Ls) (ho : w.ownsRow B 5 1 v n xs) : v.ownBlock = none ∨ v.ownBlock ≠ some lb := by
  rcases ho.2 with ⟨h0, _⟩ | ⟨g, cap, cur, hv, _, hg, _⟩
  · subst h0; exact Or.inl rfl
  · refine Or.inr fun e => ?_
    subst hv
    simp [Value.ownBlock] at e
    subst e
    obtain ⟨C, h1, _⟩ := h
    rw [hg] at h1
    injection h1 with h1
    injection h1 with _ h1 _
    exact absurd h1 (by decide)

theorem own_cases {w : World} {B : Nat} {v : Value} {l : List Int} (h : w.ownsRow B 5 1 v l.length (l.map eB)) : (v = .slice none 0 0 ∧ l = []) ∨ ∃ ad c, v = .slice (some ad) l.length c ∧ (∀ j u, (l.map eB)[j]? = some u → w.cell? (ad.add j) = some u) ∧ l.length ≤ c ∧ c ≤ maxLen := by
  have hc := fun g hg => h.cells (g := g) hg
  rcases h.2 with ⟨h0, h1⟩ | ⟨g, cap, cur, hv, _, hg, h1, h2, _⟩
  · exact Or.inl ⟨h0, List.length_eq_zero_iff.1 h1⟩
  · refine Or.inr ⟨⟨g, 0, none⟩, cap, hv, ?_, h1, h2⟩
    exact hc g (by rw [hv]; rfl)

theorem rd_get {w : World} {a : Option Addr} {n c : Nat} {l : List ByteArray} (h : Rd w (.slice a n c) l) (j : Nat) (hj : j < l.length) : ∃ b o, a = some ⟨b, o, none⟩ ∧ w.cell? ⟨b, o + j, none⟩ = some (.string (l.getD j ByteArray.empty)) := by
  obtain ⟨a', c', e, hc, hm, _, h⟩ := h
  injection e with e1 e2 e3
  rcases h with h | ⟨b, o, e4, h⟩
  · subst h; simp at hj
  · exact ⟨b, o, e1.trans e4, h j hj⟩

theorem idx_drop {W : List ByteArray} {k : Nat} (h : k < W.length) (Ls : List (List ByteArray)) : idxGo (W.drop k) Ls = (((((W.getD k ByteArray.empty).size : Int) % 256) :: tb (W.getD k ByteArray.empty)) ++ ((((havTo Ls (W.getD k ByteArray.empty) Ls.length).length : Int) % 256) :: havTo Ls (W.getD k ByteArray.empty) Ls.length)) ++ idxGo (W.drop (k + 1)) (rstTo Ls (W.getD k ByteArray.empty) Ls.length) := by
  rw [List.drop_eq_getElem_cons h]
  simp [idxGo, List.getD, h]
end Go.Proofs.YtkncboinfcnklaaGreatDoor
