import Derived.Lib.SlicesCompact
namespace Go.Proofs.YtkncboinfcnklaaGreatDoor.Mth
open Go.Lib

section
variable {α : Type} {lt : α → α → Prop}

/-- Two strictly rising lists of the same things are one. -/
theorem up_ext (irr : ∀ a, ¬ lt a a) (tr : ∀ a b c, lt a b → lt b c → lt a c) : ∀ {l m : List α}, l.Pairwise lt → m.Pairwise lt → (∀ x, x ∈ l ↔ x ∈ m) → l = m := by
  intro l
  induction l with
  | nil =>
    intro m _ _ h
    cases m with
    | nil => rfl
    | cons y m => have := (h y).2 (by simp); simp at this
  | cons x l ih =>
    intro m hl hm h
    cases m with
    | nil => have := (h x).1 (by simp); simp at this
    | cons y m =>
      rw [List.pairwise_cons] at hl hm
      have e : x = y := by
        rcases List.mem_cons.1 ((h x).1 (by simp)) with e | e
        · exact e
        · rcases List.mem_cons.1 ((h y).2 (by simp)) with e' | e'
          · exact e'.symm
          · exact absurd (tr _ _ _ (hl.1 y e') (hm.1 x e)) (irr x)
      subst e
      rw [ih hl.2 hm.2 ?_]
      intro z
      constructor
      · intro hz
        rcases List.mem_cons.1 ((h z).1 (by simp [hz])) with e | e
        · subst e; exact absurd (hl.1 _ hz) (irr _)
        · exact e
      · intro hz
        rcases List.mem_cons.1 ((h z).2 (by simp [hz])) with e | e
        · subst e; exact absurd (hm.1 _ hz) (irr _)
        · exact e

theorem up_nodup (irr : ∀ a, ¬ lt a a) {l : List α} (h : l.Pairwise lt) : l.Nodup := by
  refine List.Pairwise.imp ?_ h
  intro a b hab e
  subst e
  exact irr _ hab
end

section
variable {α : Type} [Inhabited α] [DecidableEq α] {le lt : α → α → Prop}

/-- Of a sorted row: what is kept rises strictly, and is what stood there. -/
theorem compactUpTo_up (hlt : ∀ a b, le a b → a ≠ b → lt a b) (hll : ∀ a b c, lt a b → le b c → lt a c) (d : Array α)
    (hs : ∀ i, i + 1 < d.size → le d[i]! d[i + 1]!) (m : Nat) (hm : m ≤ d.size) :
    (compactUpTo d m).Pairwise lt ∧ (∀ x, x ∈ compactUpTo d m ↔ ∃ j, j < m ∧ d[j]! = x) ∧ (∀ x ∈ compactUpTo d m, x = d[m - 1]! ∨ lt x d[m - 1]!) := by
  induction m with
  | zero => simp [compactUpTo]
  | succ m ih =>
    obtain ⟨h1, h2, h3⟩ := ih (by omega)
    rw [compactUpTo_succ]
    by_cases k : keeps d m = true
    · rw [if_pos k]
      have hlast : ∀ x ∈ compactUpTo d m, lt x d[m]! := by
        intro x hx
        have hpos : 0 < m := by
          rcases Nat.eq_zero_or_pos m with e | e
          · subst e; simp [compactUpTo] at hx
          · exact e
        have hne : d[m]! ≠ d[m - 1]! := by
          have := of_decide_eq_true k
          rcases this with e | e
          · omega
          · exact e
        have hle := hs (m - 1) (by omega)
        rw [show m - 1 + 1 = m by omega] at hle
        rcases h3 x hx with e | e
        · subst e; exact hlt _ _ hle (Ne.symm hne)
        · exact hll _ _ _ e hle
      refine ⟨?_, ?_, ?_⟩
      · rw [List.pairwise_append]
        refine ⟨h1, by simp, ?_⟩
        intro a ha b hb
        simp at hb
        subst hb
        exact hlast a ha
      · intro x
        simp only [List.mem_append, List.mem_singleton, h2]
        constructor
        · rintro (⟨j, hj, e⟩ | e)
          · exact ⟨j, by omega, e⟩
          · exact ⟨m, by omega, e.symm⟩
        · rintro ⟨j, hj, e⟩
          rcases Nat.lt_or_ge j m with h | h
          · exact Or.inl ⟨j, h, e⟩
          · have : j = m := by omega
            subst this; exact Or.inr e.symm
      · intro x hx
        rw [show m + 1 - 1 = m by omega]
        simp only [List.mem_append, List.mem_singleton] at hx
        rcases hx with hx | hx
        · exact Or.inr (hlast x hx)
        · exact Or.inl hx
    · have k' : ¬ (m = 0 ∨ d[m]! ≠ d[m - 1]!) := by simpa [keeps] using k
      have hpos : 0 < m := by omega
      have he : d[m]! = d[m - 1]! := by
        by_cases e : d[m]! = d[m - 1]!
        · exact e
        · exact absurd (Or.inr e) k'
      rw [if_neg k, List.append_nil, show m + 1 - 1 = m by omega, he]
      refine ⟨h1, ?_, h3⟩
      intro x
      rw [h2]
      constructor
      · rintro ⟨j, hj, e⟩; exact ⟨j, by omega, e⟩
      · rintro ⟨j, hj, e⟩
        rcases Nat.lt_or_ge j m with h | h
        · exact ⟨j, h, e⟩
        · have : j = m := by omega
          subst this
          exact ⟨j - 1, by omega, by rw [← he]; exact e⟩

theorem compact_up (hlt : ∀ a b, le a b → a ≠ b → lt a b) (hll : ∀ a b c, lt a b → le b c → lt a c) (l : List α) (hs : l.Pairwise le) :
    (compact l).Pairwise lt ∧ (∀ x, x ∈ compact l ↔ x ∈ l) := by
  have h := compactUpTo_up hlt hll l.toArray (by
    intro i hi
    have hi' : i + 1 < l.length := by simpa using hi
    rw [List.pairwise_iff_getElem] at hs
    have := hs i (i + 1) (by omega) hi' (by omega)
    simpa [getElem!_pos, hi', show i < l.length by omega] using this) l.length (by simp)
  refine ⟨h.1, ?_⟩
  intro x
  rw [show compact l = compactUpTo l.toArray l.length from rfl, h.2.1]
  constructor
  · rintro ⟨j, hj, e⟩
    rw [← e]
    simp [getElem!_pos, hj]
  · intro hx
    obtain ⟨j, hj, e⟩ := List.mem_iff_getElem.1 hx
    exact ⟨j, hj, by simp [getElem!_pos, hj, e]⟩
end

/-- THE MERGED LIST of numbers. -/
def merged (l : List Int) : List Int := compact (l.mergeSort fun x y => decide (x ≤ y))

theorem merged_up (l : List Int) : (merged l).Pairwise (· < ·) ∧ ∀ x, x ∈ merged l ↔ x ∈ l := by
  have hs : (l.mergeSort fun x y => decide (x ≤ y)).Pairwise (fun a b => a ≤ b) := by
    have := List.pairwise_mergeSort (le := fun x y : Int => decide (x ≤ y)) (by intro a b c h1 h2; simp at h1 h2 ⊢; omega) (by intro a b; simp; omega) l
    simpa using this
  have h := compact_up (lt := fun a b : Int => a < b) (le := fun a b : Int => a ≤ b) (by intro a b h1 h2; omega) (by intro a b c h1 h2; omega) _ hs
  exact ⟨h.1, fun x => by rw [show merged l = compact (l.mergeSort fun x y => decide (x ≤ y)) from rfl, h.2 x]; simp [List.mem_mergeSort]⟩

theorem merged_ext {l : List Int} {m : List Int} (hm : m.Pairwise (· < ·)) (h : ∀ x, x ∈ m ↔ x ∈ l) : m = merged l :=
  up_ext (lt := fun a b : Int => a < b) (fun a h => by omega) (fun a b c h1 h2 => by omega) hm (merged_up l).1 (fun x => by rw [h, (merged_up l).2])

theorem merged_len (l : List Int) : (merged l).length ≤ l.length := by
  unfold merged
  have h1 : (compact (l.mergeSort fun x y => decide (x ≤ y))).length ≤ (l.mergeSort fun x y => decide (x ≤ y)).length := by
    unfold compact compactUpTo
    rw [List.length_map]
    exact Nat.le_trans (List.length_filter_le _ _) (by simp)
  rw [List.length_mergeSort] at h1
  exact h1

end Go.Proofs.YtkncboinfcnklaaGreatDoor.Mth
