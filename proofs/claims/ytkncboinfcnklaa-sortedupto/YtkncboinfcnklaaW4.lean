import Derived.Test.YtkncboinfcnklaaW3
namespace Go.Proofs.Ytkncboinfcnklaa
open Go.RowKit Go.Deep Mth

theorem turnLeft_any (L R : BT Int) (x : Int) (w : World) (hL : InT eI w L) (hR : InT eI w R) (hb : (lst L).length + 1 + (lst R).length ≤ 4611686018427) (hgt : 3 * (lst L).length < (lst R).length) (h2 : 2 ≤ (lst L).length + (lst R).length) :
    Calls Try.prog 59 #[L.ptr, .int .i64 x, R.ptr] w (Tree w (lst L ++ x :: lst R)) := by
  cases R with
  | nil => simp [lst] at hgt
  | node b o a Rl Rr =>
    have ho : o = 0 := hR.1
    subst ho
    have hlen : (lst (.node b 0 a Rl Rr)).length = (lst Rl).length + 1 + (lst Rr).length := by simp [lst]; omega
    rw [hlen] at hb hgt h2
    clear hlen
    by_cases c : (lst Rl).length < 2 * (lst Rr).length
    · exact turnLeft_one L Rl Rr x a b w hL hR (by omega) c
    · cases Rl with
      | nil => exfalso; simp only [lst, List.length_nil] at c hb hgt h2; omega
      | node b2 o2 a2 l2 r2 =>
        have ho : o2 = 0 := hR.2.2.2.2.2.1.1
        subst ho
        have hlen : (lst (.node b2 0 a2 l2 r2)).length = (lst l2).length + 1 + (lst r2).length := by simp [lst]; omega
        exact turnLeft_two L l2 r2 Rr x a a2 b b2 w hL hR (by omega) c

theorem turnRight_any (L R : BT Int) (x : Int) (w : World) (hL : InT eI w L) (hR : InT eI w R) (hb : (lst L).length + 1 + (lst R).length ≤ 4611686018427) (hgt : 3 * (lst R).length < (lst L).length) (h2 : 2 ≤ (lst L).length + (lst R).length) :
    Calls Try.prog 60 #[L.ptr, .int .i64 x, R.ptr] w (Tree w (lst L ++ x :: lst R)) := by
  cases L with
  | nil => simp [lst] at hgt
  | node b o a Ll Lr =>
    have ho : o = 0 := hL.1
    subst ho
    have hlen : (lst (.node b 0 a Ll Lr)).length = (lst Ll).length + 1 + (lst Lr).length := by simp [lst]; omega
    rw [hlen] at hb hgt h2
    clear hlen
    by_cases c : (lst Lr).length < 2 * (lst Ll).length
    · exact turnRight_one R Ll Lr x a b w hR hL (by omega) c
    · cases Lr with
      | nil => exfalso; simp only [lst, List.length_nil] at c hb hgt h2; omega
      | node b2 o2 a2 l2 r2 =>
        have ho : o2 = 0 := hL.2.2.2.2.2.2.1
        subst ho
        have hlen : (lst (.node b2 0 a2 l2 r2)).length = (lst l2).length + 1 + (lst r2).length := by simp [lst]; omega
        exact turnRight_two R l2 r2 Ll x a a2 b b2 w hR hL (by omega) c

theorem join_tree (L R : BT Int) (x : Int) (w : World) (hL : InT eI w L) (hR : InT eI w R) (hb : (lst L).length + 1 + (lst R).length ≤ 4611686018427) :
    Calls Try.prog 40 #[L.ptr, .int .i64 x, R.ptr] w (Tree w (lst L ++ x :: lst R)) := by
  refine (join_any L R x w hL hR (by omega)).mono ?_
  rintro e w' ⟨rfl, hT, hB⟩
  exact ⟨.node w.heap.size 0 x L R, rfl, hT, hB, rfl⟩

set_option maxHeartbeats 1000000 in
theorem balance_core (u v : Option Addr) (m n : Nat) (x : Int) (w : World) (Q : Ending → World → Prop) (hm : m ≤ 4611686018427) (hn : n ≤ 4611686018427)
    (sL : Hid (Calls Try.prog 27 #[.pointer u] w fun e w' => e = .returned (.int .i64 m) ∧ w' = w)) (sR : Hid (Calls Try.prog 27 #[.pointer v] w fun e w' => e = .returned (.int .i64 n) ∧ w' = w))
    (jn : Hid (Calls Try.prog 40 #[.pointer u, .int .i64 x, .pointer v] w fun e w' => (∃ p, e = .returned (.pointer p)) ∧ Q e w'))
    (tl : Hid (3 * m < n → 2 ≤ m + n → Calls Try.prog 59 #[.pointer u, .int .i64 x, .pointer v] w fun e w' => (∃ p, e = .returned (.pointer p)) ∧ Q e w'))
    (tr : Hid (3 * n < m → 2 ≤ m + n → Calls Try.prog 60 #[.pointer u, .int .i64 x, .pointer v] w fun e w' => (∃ p, e = .returned (.pointer p)) ∧ Q e w')) :
    Calls Try.prog 42 #[.pointer u, .int .i64 x, .pointer v] w Q := by
  go_enter Try.func42, Try.ntmps42
  go_wp2_with fail
  refine sL.out.mono ?_
  rintro e w' ⟨rfl, hw⟩
  subst hw
  go_wp2_with fail
  refine sR.out.mono ?_
  rintro e w' ⟨rfl, hw⟩
  subst hw
  go_wp2_with (first
    | (go_at_call 40; refine jn.out.mono ?_; rintro e w1 ⟨⟨p, rfl⟩, hQ⟩)
    | (go_at_call 59; refine (tl.out (by omega) (by omega)).mono ?_; rintro e w1 ⟨⟨p, rfl⟩, hQ⟩)
    | (go_at_call 60; refine (tr.out (by omega) (by omega)).mono ?_; rintro e w1 ⟨⟨p, rfl⟩, hQ⟩))


  all_goals exact hQ

theorem tree_pointer {w : World} {l : List Int} {e : Ending} {w' : World} (h : Tree w l e w') : (∃ p, e = .returned (.pointer p)) ∧ Tree w l e w' := by
  refine ⟨?_, h⟩
  obtain ⟨T, rfl, _⟩ := h
  obtain ⟨p, hp⟩ := ptr_pointer T
  exact ⟨p, by rw [hp]⟩

theorem balance_any (L R : BT Int) (x : Int) (w : World) (hL : InT eI w L) (hR : InT eI w R) (hb : (lst L).length + 1 + (lst R).length ≤ 4611686018427) :
    Calls Try.prog 42 #[L.ptr, .int .i64 x, R.ptr] w (Tree w (lst L ++ x :: lst R)) := by
  have sL := size_any L w hL
  have sR := size_any R w hR
  have jn := (join_tree L R x w hL hR hb).mono fun e w' h => tree_pointer h
  have tl := fun h1 h2 => (turnLeft_any L R x w hL hR hb h1 h2).mono fun e w' h => tree_pointer h
  have tr := fun h1 h2 => (turnRight_any L R x w hL hR hb h1 h2).mono fun e w' h => tree_pointer h
  obtain ⟨u, hu⟩ := ptr_pointer L
  obtain ⟨v, hv⟩ := ptr_pointer R
  rw [hu] at sL
  rw [hv] at sR
  simp only [hu, hv] at jn tl tr ⊢
  exact balance_core u v _ _ x w _ (by omega) (by omega) sL sR jn tl tr

set_option maxHeartbeats 400000 in
theorem less_any (x y : Int) (w : World) : Calls Try.prog 41 #[.int .i64 x, .int .i64 y] w fun e w' => e = .returned (.bool (decide (x < y))) ∧ w' = w := by
  go_enter Try.func41, Try.ntmps41
  go_wp2

  all_goals go_ret
  all_goals exact ⟨by simp, rfl⟩
end Go.Proofs.Ytkncboinfcnklaa
