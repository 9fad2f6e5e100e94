import Derived.Test.YtkncboinfcnklaaS9
import Derived.Test.YtkncboinfcnklaaShelf
import Derived.Laws.AppendOwnNone
namespace Go.Proofs.Ytkncboinfcnklaa.Str
open Go.RowKit Go.Deep Go.Proofs.Ytkncboinfcnklaa.Mth

theorem rd_cases {w : World} {v : Value} {l : List ByteArray} (h : Rd w v l) : (v = .slice none 0 0 ∧ l = []) ∨ ∃ ad c, v = .slice (some ad) l.length c ∧ (∀ j u, (l.map eS)[j]? = some u → w.cell? (ad.add j) = some u) ∧ l.length ≤ c ∧ c ≤ maxLen := by
  obtain ⟨a, c, rfl, hc, hm, hz, h⟩ := h
  cases a with
  | none =>
    have h0 := hz rfl
    subst h0
    have hl : l = [] := List.length_eq_zero_iff.1 (by omega)
    subst hl
    exact Or.inl ⟨rfl, rfl⟩
  | some ad =>
    refine Or.inr ⟨ad, c, rfl, ?_, hc, hm⟩
    intro j u hj
    rcases h with h | ⟨b, o, e, h⟩
    · subst h; simp at hj
    · injection e with e
      subst e
      have hj' : j < l.length := by
        have := (List.getElem?_eq_some_iff.1 hj).1
        simpa using this
      have h1 := h j hj'
      rw [Go.WideShapes.add_plain, h1]
      simp [List.getElem?_map, List.getElem?_eq_getElem hj'] at hj
      rw [← hj]
      simp [List.getD, hj']

theorem rd_len {w : World} {v : Value} {l : List ByteArray} (h : Rd w v l) : ∃ a c, v = .slice a l.length c ∧ l.length ≤ c ∧ c ≤ maxLen := by
  obtain ⟨a, c, rfl, hc, hm, _, _⟩ := h
  exact ⟨a, c, rfl, hc, hm⟩

theorem size_zeroCells (z : Array Value) (n : Nat) (hz : z.size = 1) : (Builtin.zeroCells z n).size = n := by
  simp [Builtin.zeroCells, hz]

theorem own_fresh (w : World) (cs : Array Value) (e : TypeId) (cap : Nat) (h : cs.size = cap) (hm : cap ≤ maxLen) : (w.alloc (.cells cs e)).ownsRow w.heap.size e 1 (.slice (some ⟨w.heap.size, 0, none⟩) 0 cap) 0 [] := by
  refine ⟨rfl, Or.inr ⟨w.heap.size, cap, cs, rfl, Nat.le_refl _, ?_, Nat.zero_le _, hm, by omega, by simp⟩⟩
  show (w.heap.push _)[w.heap.size]? = _
  rw [Array.getElem?_push, if_pos rfl]

theorem grow_any (n : Nat) (hn : n ≤ 1048576) (w : World) :
    Calls Try.prog 43 #[.slice none 0 0, .int .i64 n] w fun e w' => ∃ v, e = .returned v ∧ Cur w w' v [] := by
  by_cases h0 : n = 0
  · subst h0
    refine (Any8.slices_Grow_room Try.laysGrowS none 0 0 0 w (by omega) (by omega) (by omega) (by omega)).mono ?_
    rintro e w' ⟨rfl, rfl⟩
    exact ⟨_, rfl, Below.refl _ _, World.ownsRow_nil _ _ _ _⟩
  · obtain ⟨i0, hi0, hz0, hz1, hz2⟩ := info_parts Try.info9
    refine (Any8.slices_Grow_grow Try.laysGrowS i0 (.string ByteArray.empty) hi0 hz0 (by omega) none 0 0 n [] w (by omega) (by omega) (by rw [hz2]; omega) (by omega) (by simp) (fun _ => rfl) (fun a ha => by cases ha)).mono ?_
    rintro e w' ⟨rfl, rfl⟩
    refine ⟨_, rfl, (Below.refl w.heap.size w).drew.alloc (Nat.le_refl _) _, own_fresh w.drew _ 9 _ ?_ (grownCap_le_maxLen _ _ _ _ (by unfold maxLen; omega))⟩
    have hge := grownCap_ge w (0 + n) 0 (Try.laysGrowS_ren.t 25)
    rw [Array.size_append, Array.size_append, size_zeroCells _ _ rfl, size_zeroCells _ _ rfl]
    simp at hge ⊢
    omega
end Go.Proofs.Ytkncboinfcnklaa.Str
