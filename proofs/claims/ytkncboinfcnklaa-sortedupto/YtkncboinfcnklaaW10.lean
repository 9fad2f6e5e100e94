import Derived.Test.YtkncboinfcnklaaW9
import Derived.Test.YtkncboinfcnklaaShelf
import Derived.Laws.AppendOwnNone
namespace Go.Proofs.Ytkncboinfcnklaa
open Go.RowKit Go.Deep Mth

theorem rd_cases {w : World} {v : Value} {l : List Int} (h : Rd w v l) : (v = .slice none 0 0 ∧ l = []) ∨ ∃ ad c, v = .slice (some ad) l.length c ∧ (∀ j u, (l.map eI)[j]? = some u → w.cell? (ad.add j) = some u) ∧ l.length ≤ c ∧ c ≤ maxLen := by
  obtain ⟨a, c, rfl, hc, hm, hz, h⟩ := h
  cases a with
  | none =>
    have h0 := hz rfl
    subst h0
    have hl : l = [] := List.length_eq_zero_iff.1 (by omega)
    subst hl
    exact Or.inl ⟨rfl, rfl⟩
  | some ad =>
    refine Or.inr ⟨ad, c, rfl, ?_, hc, hm⟩
    intro j u hj
    rcases h with h | ⟨b, o, e, h⟩
    · subst h; simp at hj
    · injection e with e
      subst e
      have hj' : j < l.length := by
        have := (List.getElem?_eq_some_iff.1 hj).1
        simpa using this
      have h1 := h j hj'
      rw [Go.WideShapes.add_plain, h1]
      simp [List.getElem?_map, List.getElem?_eq_getElem hj'] at hj
      rw [← hj]
      simp [List.getD, hj']

theorem rd_len {w : World} {v : Value} {l : List Int} (h : Rd w v l) : ∃ a c, v = .slice a l.length c ∧ l.length ≤ c ∧ c ≤ maxLen := by
  obtain ⟨a, c, rfl, hc, hm, _, _⟩ := h
  exact ⟨a, c, rfl, hc, hm⟩

set_option maxHeartbeats 400000 in
theorem rise_nil (a : Option Addr) (c : Nat) (w : World) :
    Calls Try.prog 7 #[.slice a 0 c] w fun e w' => e = .returned (.bool true) ∧ ∃ n, w' = w.drewN n := by
  go_enter Try.func7, Try.ntmps7
  go_wp2
  go_loop [3] (fun i => i = .int .i64 1) (fun _ => 0)
  case atStart => exact rfl
  case round =>
    subst hrel
    go_wp2
    go_ret
    exact ⟨rfl, 0, rfl⟩

set_option maxHeartbeats 1000000 in
theorem rise_some (b o c : Nat) (l : List Int) (w : World) (hc : l.length ≤ c) (hm : c ≤ maxLen) (h : ∀ j, j < l.length → w.cell? ⟨b, o + j, none⟩ = some (.int .i64 (l.getD j 0))) (hup : l.Pairwise (fun a b : Int => a < b)) :
    Calls Try.prog 7 #[.slice (some ⟨b, o, none⟩) l.length c] w fun e w' => e = .returned (.bool true) ∧ ∃ n, w' = w.drewN n := by
  unfold maxLen at hm
  have H := hide h
  have HUP : Hid (∀ k, k + 1 < l.length → l.getD k 0 < l.getD (k + 1) 0) := by
    intro k hk
    have := (List.pairwise_iff_getElem.1 hup) k (k + 1) (by omega) hk (by omega)
    simpa [List.getD, hk, show k < l.length by omega] using this
  clear h hup
  generalize hn : l.length = n at *
  clear hn
  go_enter Try.func7, Try.ntmps7
  go_wp2
  go_loopw [3] (fun i wr => ∃ k q : Nat, k ≤ n ∧ i = .int .i64 (k + 1 : Nat) ∧ wr = w.drewN q) (fun i _ => n - (intOf i).toNat)
  case atStart => exact ⟨0, 0, Nat.zero_le _, rfl, rfl⟩
  case round =>
    obtain ⟨k, q, hk, rfl, rfl⟩ := hrel
    by_cases hlt : k + 1 < n
    · have c1 := H.out (k + 1) hlt
      have c0 := H.out k (by omega)
      have hu := HUP.out k hlt
      generalize l.getD k 0 = y at *
      generalize l.getD (k + 1) 0 = z at *
      have hle : ¬ z ≤ y := by omega
      have e1 : ((k + 1 : Nat) : Int) = (k : Int) + 1 := by omega
      rw [e1]
      go_wp2_with fail
      go_quiet (fail)
      go_wp2
      go_roundw
      case rel => exact ⟨k + 1, _, by omega, by go_num, rfl⟩
      case measure => simp [intOf]; omega
    · have e1 : ((k + 1 : Nat) : Int) = (k : Int) + 1 := by omega
      rw [e1]
      go_wp2
      go_ret
      exact ⟨rfl, q, rfl⟩

theorem rise_any {v : Value} {l : List Int} {w : World} (h : Rd w v l) (hup : l.Pairwise (fun a b : Int => a < b)) :
    Calls Try.prog 7 #[v] w fun e w' => e = .returned (.bool true) ∧ ∃ n, w' = w.drewN n := by
  obtain ⟨a, c, rfl, hc, hm, _, h⟩ := h
  rcases h with h | ⟨b, o, rfl, h⟩
  · subst h
    exact rise_nil a c w
  · exact rise_some b o c l w hc hm h hup

theorem size_zeroCells (z : Array Value) (n : Nat) (hz : z.size = 1) : (Builtin.zeroCells z n).size = n := by
  simp [Builtin.zeroCells, hz]

theorem own_fresh (w : World) (cs : Array Value) (e : TypeId) (cap : Nat) (h : cs.size = cap) (hm : cap ≤ maxLen) : (w.alloc (.cells cs e)).ownsRow w.heap.size e 1 (.slice (some ⟨w.heap.size, 0, none⟩) 0 cap) 0 [] := by
  refine ⟨rfl, Or.inr ⟨w.heap.size, cap, cs, rfl, Nat.le_refl _, ?_, Nat.zero_le _, hm, by omega, by simp⟩⟩
  show (w.heap.push _)[w.heap.size]? = _
  rw [Array.getElem?_push, if_pos rfl]

theorem grow_any (n : Nat) (hn : n ≤ 1048576) (w : World) :
    Calls Try.prog 36 #[.slice none 0 0, .int .i64 n] w fun e w' => ∃ v, e = .returned v ∧ Cur w w' v [] := by
  by_cases h0 : n = 0
  · subst h0
    refine (Any8.slices_Grow_room Try.laysGrowI none 0 0 0 w (by omega) (by omega) (by omega) (by omega)).mono ?_
    rintro e w' ⟨rfl, rfl⟩
    exact ⟨_, rfl, Below.refl _ _, World.ownsRow_nil _ _ _ _⟩
  · obtain ⟨i0, hi0, hz0, hz1, hz2⟩ := info_parts Try.info3
    refine (Any8.slices_Grow_grow Try.laysGrowI i0 (.int .i64 0) hi0 hz0 (by omega) none 0 0 n [] w (by omega) (by omega) (by rw [hz2]; omega) (by omega) (by simp) (fun _ => rfl) (fun a ha => by cases ha)).mono ?_
    rintro e w' ⟨rfl, rfl⟩
    refine ⟨_, rfl, (Below.refl w.heap.size w).drew.alloc (Nat.le_refl _) _, own_fresh w.drew _ 3 _ ?_ (grownCap_le_maxLen _ _ _ _ (by unfold maxLen; omega))⟩
    have hge := grownCap_ge w (0 + n) 0 (Try.laysGrowI_ren.t 25)
    rw [Array.size_append, Array.size_append, size_zeroCells _ _ rfl, size_zeroCells _ _ rfl]
    simp at hge ⊢
    omega
end Go.Proofs.Ytkncboinfcnklaa
