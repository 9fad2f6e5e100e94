import Derived.Test.YtkncboinfcnklaaGreatDoorMath1
import Derived.Test.YtkncboinfcnklaaGreatDoorMath2
import Derived.Sort.Walk0
namespace Go.Proofs.YtkncboinfcnklaaGreatDoor.Mth
open Go.Lib

/-- Is it there? -/
abbrev memD {α : Type} [DecidableEq α] (x : α) (l : List α) : Bool := decide (x ∈ l)

theorem memD_true {α : Type} [DecidableEq α] {x : α} {l : List α} (h : x ∈ l) : memD x l = true := decide_eq_true h
theorem memD_false {α : Type} [DecidableEq α] {x : α} {l : List α} (h : ¬ x ∈ l) : memD x l = false := decide_eq_false h
theorem memD_iff {α : Type} [DecidableEq α] {x : α} {l : List α} : memD x l = true ↔ x ∈ l := decide_eq_true_iff

/-- Byte by byte. -/
abbrev ltS (a b : ByteArray) : Prop := a.data.toList < b.data.toList

theorem bytes_ext {a b : ByteArray} (h : a.data.toList = b.data.toList) : a = b := by
  cases a
  cases b
  simp at h
  subst h
  rfl

theorem sordS : SOrd ltS := by
  refine ⟨fun a => List.lt_irrefl _, fun a b c h1 h2 => List.lt_trans h1 h2, fun a b => ?_⟩
  by_cases h1 : a.data.toList < b.data.toList
  · exact Or.inl h1
  · by_cases h2 : b.data.toList < a.data.toList
    · exact Or.inr (Or.inr h2)
    · exact Or.inr (Or.inl (bytes_ext (List.le_antisymm (List.not_lt.1 h2) (List.not_lt.1 h1))))

theorem less_eq (a b : ByteArray) : Op.bytesLess a.toList b.toList = decide (ltS a b) := by
  rw [bytesLess_eq, Lib.toList_data, Lib.toList_data]

theorem eq_eq (a b : ByteArray) : (a.toList == b.toList) = decide (a = b) := by
  rw [Lib.toList_data, Lib.toList_data, Bool.eq_iff_iff]
  simp only [beq_iff_eq, decide_eq_true_iff]
  exact ⟨bytes_ext, fun h => by rw [h]⟩

def ofL (l : List UInt8) : ByteArray := ⟨l.toArray⟩
theorem ofL_data (l : List UInt8) : (ofL l).data.toList = l := rfl
theorem ofL_of (s : ByteArray) : ofL s.data.toList = s := bytes_ext rfl

/-- THE MERGED LIST of texts, as lists of bytes, and as texts. -/
def mergedL (l : List ByteArray) : List (List UInt8) := compact ((l.map (·.data.toList)).mergeSort fun x y => decide (x ≤ y))
def mergedS (l : List ByteArray) : List ByteArray := (mergedL l).map ofL

theorem mergedL_up (l : List ByteArray) : (mergedL l).Pairwise (· < ·) ∧ ∀ x, x ∈ mergedL l ↔ x ∈ l.map (·.data.toList) := by
  have hs : ((l.map (·.data.toList)).mergeSort fun x y => decide (x ≤ y)).Pairwise (fun a b => a ≤ b) := by
    have := List.pairwise_mergeSort (le := fun x y : List UInt8 => decide (x ≤ y)) (by intro a b c h1 h2; simp only [decide_eq_true_iff] at h1 h2 ⊢; exact List.le_trans h1 h2) (by intro a b; rcases List.le_total a b with h | h <;> simp [h]) (l.map (·.data.toList))
    simpa using this
  have h := compact_up (lt := fun a b : List UInt8 => a < b) (le := fun a b : List UInt8 => a ≤ b)
    (by intro a b h1 h2; by_cases c : a < b; exact c; exact absurd (List.le_antisymm h1 (List.not_lt.1 c)) h2)
    (by
      intro a b c h1 h2
      by_cases e : b = c
      · subst e; exact h1
      · by_cases d : b < c
        · exact List.lt_trans h1 d
        · exact absurd (List.le_antisymm h2 (List.not_lt.1 d)) e) _ hs
  exact ⟨h.1, fun x => by rw [show mergedL l = compact ((l.map (·.data.toList)).mergeSort fun x y => decide (x ≤ y)) from rfl, h.2 x, List.mem_mergeSort]⟩

theorem mergedS_up (l : List ByteArray) : (mergedS l).Pairwise ltS ∧ ∀ x, x ∈ mergedS l ↔ x ∈ l := by
  have h := mergedL_up l
  refine ⟨?_, ?_⟩
  · unfold mergedS
    rw [List.pairwise_map]
    exact h.1
  · intro x
    unfold mergedS
    rw [List.mem_map]
    constructor
    · rintro ⟨y, hy, rfl⟩
      obtain ⟨z, hz, e⟩ := List.mem_map.1 ((h.2 y).1 hy)
      have : ofL y = z := by rw [← e]; exact ofL_of z
      rw [this]; exact hz
    · intro hx
      exact ⟨x.data.toList, (h.2 _).2 (List.mem_map.2 ⟨x, hx, rfl⟩), ofL_of x⟩

theorem mergedS_ext {l m : List ByteArray} (hm : m.Pairwise ltS) (h : ∀ x, x ∈ m ↔ x ∈ l) : m = mergedS l :=
  up_ext sordS.irr sordS.tr hm (mergedS_up l).1 (fun x => by rw [h, (mergedS_up l).2])

theorem mergedS_len (l : List ByteArray) : (mergedS l).length ≤ l.length := by
  unfold mergedS mergedL
  rw [List.length_map]
  have h1 : (compact ((l.map (·.data.toList)).mergeSort fun x y => decide (x ≤ y))).length ≤ ((l.map (·.data.toList)).mergeSort fun x y => decide (x ≤ y)).length := by
    unfold compact compactUpTo
    rw [List.length_map]
    exact Nat.le_trans (List.length_filter_le _ _) (by simp)
  rw [List.length_mergeSort, List.length_map] at h1
  exact h1

end Go.Proofs.YtkncboinfcnklaaGreatDoor.Mth
