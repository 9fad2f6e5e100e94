import Derived.Test.YtkncboinfcnklaaDoorM1
import Derived.Test.YtkncboinfcnklaaDoorPMath
namespace Go.Proofs.YtkncboinfcnklaaDoor
open Go.RowKit Go.Deep Go.Proofs.YtkncboinfcnklaaDoor.Mth

abbrev eV (e : Ent) : Value := .agg #[.int .i64 e.seq, .int .i64 e.time, .string e.text]

theorem below_drew {w w' : World} {n : Nat} (h : Below (w.drewN n).heap.size (w.drewN n) w') : Below w.heap.size w w' := ⟨h.os, h.tape, h.output, h.size, h.block⟩
theorem below_drewN (w : World) (n : Nat) : Below w.heap.size w (w.drewN n) := ⟨rfl, rfl, rfl, Nat.le_refl _, fun _ _ => rfl⟩

set_option maxHeartbeats 400000 in
theorem pick_any (c n : Int) (w : World) (h0 : -9223372036854775808 ≤ c) (h1 : c < 9223372036854775808) (hn : 0 < n) (hn1 : n ≤ 4611686018427387904) :
    Calls Tryd.prog 7 #[.int .i64 c, .int .i64 n] w fun e w' => (∃ r : Int, 0 ≤ r ∧ r < n ∧ e = .returned (.int .i64 r)) ∧ w' = w := by
  have hz : (n == 0) = false := by simp; omega
  by_cases hc : c < 0
  · have hm : 0 ≤ (-(c + 1)).tmod n ∧ (-(c + 1)).tmod n < n := ⟨Int.tmod_nonneg _ (by omega), Int.tmod_lt_of_pos _ hn⟩
    go_enter Tryd.func7, Tryd.ntmps7
    go_wp2
    go_ret
    rw [Int.neg_tmod] at hm
    exact ⟨⟨_, hm.1, hm.2, rfl⟩, rfl⟩
  · go_enter Tryd.func7, Tryd.ntmps7
    go_wp2
    go_ret
    exact ⟨⟨_, Int.emod_nonneg _ (by omega), Int.emod_lt_of_pos _ hn, rfl⟩, rfl⟩

set_option maxHeartbeats 400000 in
theorem isNumber_any (n : Int) (w : World) : Calls Tryd.prog 23 #[.int .i64 n] w fun e w' => e = .returned (.bool (decide (0 ≤ n) && decide (n ≤ 1000000000000))) ∧ w' = w := by
  by_cases h0 : 0 ≤ n
  · by_cases h1 : n ≤ 1000000000000
    · go_enter Tryd.func23, Tryd.ntmps23
      go_wp2
      go_ret
      exact ⟨by simp [h0, h1], rfl⟩
    · go_enter Tryd.func23, Tryd.ntmps23
      go_wp2
      go_ret
      exact ⟨by simp [h1], rfl⟩
  · go_enter Tryd.func23, Tryd.ntmps23
    go_wp2
    go_ret
    exact ⟨by simp; omega, rfl⟩

set_option maxHeartbeats 1000000 in
theorem isEntry_core (s t : Int) (x : ByteArray) (p q r : Bool) (w : World) (cp : Hid (∀ w, Calls Tryd.prog 23 #[.int .i64 s] w fun e w' => e = .returned (.bool p) ∧ w' = w)) (cq : Hid (∀ w, Calls Tryd.prog 23 #[.int .i64 t] w fun e w' => e = .returned (.bool q) ∧ w' = w)) (hr : Hid (r = decide (x.size ≤ 60))) :
    Calls Tryd.prog 15 #[.agg #[.int .i64 s, .int .i64 t, .string x]] w fun e w' => e = .returned (.bool (p && q && r)) ∧ Below w.heap.size w w' := by
  cases p with
  | false =>
    go_enter Tryd.func15, Tryd.ntmps15
    go_wp2_with fail
    refine (cp.out _).mono ?_
    rintro e w' ⟨rfl, hw⟩
    rw [hw]
    clear hw w'
    go_wp2
    go_ret
    exact ⟨by simp, below_alloc w _⟩
  | true =>
    cases q with
    | false =>
      go_enter Tryd.func15, Tryd.ntmps15
      go_wp2_with fail
      refine (cp.out _).mono ?_
      rintro e w' ⟨rfl, hw⟩
      rw [hw]
      clear hw w'
      go_wp2_with fail
      refine (cq.out _).mono ?_
      rintro e w' ⟨rfl, hw⟩
      rw [hw]
      clear hw w'
      go_wp2
      go_ret
      exact ⟨by simp, below_alloc w _⟩
    | true =>
      by_cases hx : x.size ≤ 60
      · go_enter Tryd.func15, Tryd.ntmps15
        go_wp2_with fail
        refine (cp.out _).mono ?_
        rintro e w' ⟨rfl, hw⟩
        rw [hw]
        clear hw w'
        go_wp2_with fail
        refine (cq.out _).mono ?_
        rintro e w' ⟨rfl, hw⟩
        rw [hw]
        clear hw w'
        go_wp2
        go_ret
        exact ⟨by rw [hr.out]; simp [hx]; omega, below_alloc w _⟩
      · go_enter Tryd.func15, Tryd.ntmps15
        go_wp2_with fail
        refine (cp.out _).mono ?_
        rintro e w' ⟨rfl, hw⟩
        rw [hw]
        clear hw w'
        go_wp2_with fail
        refine (cq.out _).mono ?_
        rintro e w' ⟨rfl, hw⟩
        rw [hw]
        clear hw w'
        go_wp2
        go_ret
        exact ⟨by rw [hr.out]; simp [hx]; omega, below_alloc w _⟩

theorem isEntry_any (e : Ent) (w : World) : Calls Tryd.prog 15 #[eV e] w fun r w' => r = .returned (.bool (isE e)) ∧ Below w.heap.size w w' := by
  refine (isEntry_core e.seq e.time e.text _ _ _ w (isNumber_any e.seq) (isNumber_any e.time) rfl).mono ?_
  rintro r w' ⟨rfl, hb⟩
  exact ⟨by unfold isE; simp only [Bool.and_assoc], hb⟩

set_option maxHeartbeats 1000000 in
theorem follows_any (e l : Ent) (w : World) : Calls Tryd.prog 16 #[eV e, eV l] w fun r w' => r = .returned (.bool (fol e l)) ∧ Below w.heap.size w w' := by
  obtain ⟨s, t, x⟩ := e
  obtain ⟨s', t', x'⟩ := l
  unfold fol
  by_cases h0 : s' < s
  · by_cases h1 : t' ≤ t
    · go_enter Tryd.func16, Tryd.ntmps16
      go_wp2
      go_ret
      exact ⟨by simp [h0, h1], (below_alloc w _).alloc (by simp) _⟩
    · go_enter Tryd.func16, Tryd.ntmps16
      go_wp2
      go_ret
      exact ⟨by simp [h1], (below_alloc w _).alloc (by simp) _⟩
  · go_enter Tryd.func16, Tryd.ntmps16
    go_wp2
    go_ret
    exact ⟨by simp; omega, (below_alloc w _).alloc (by simp) _⟩
end Go.Proofs.YtkncboinfcnklaaDoor
