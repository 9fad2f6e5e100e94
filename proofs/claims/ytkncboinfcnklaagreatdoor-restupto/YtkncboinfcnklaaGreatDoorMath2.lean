import Derived.Deep.Trees
import Derived.Below
namespace Go.Proofs.YtkncboinfcnklaaGreatDoor.Mth
open Go.Deep Go.RowKit

/-- A strict order of which any two can be held against each other. -/
structure SOrd {α : Type} (lt : α → α → Prop) : Prop where
  irr : ∀ a, ¬ lt a a
  tr : ∀ a b c, lt a b → lt b c → lt a c
  tri : ∀ a b, lt a b ∨ a = b ∨ lt b a

theorem sordInt : SOrd (fun a b : Int => a < b) := ⟨fun a h => by omega, fun a b c h1 h2 => by omega, fun a b => by omega⟩

section
variable {α : Type} {lt : α → α → Prop} [DecidableEq α]

/-! ### what stands in both -/
theorem comm_lt (h : SOrd lt) {x y : α} {A B : List α} (hB : (y :: B).Pairwise lt) (hxy : lt x y) : (x :: A).filter (fun z => decide (z ∈ y :: B)) = A.filter (fun z => decide (z ∈ y :: B)) := by
  have hn : ¬ x ∈ y :: B := by
    intro hx
    rcases List.mem_cons.1 hx with e | e
    · subst e; exact h.irr _ hxy
    · exact h.irr _ (h.tr _ _ _ hxy ((List.pairwise_cons.1 hB).1 _ e))
  rw [List.filter_cons, if_neg (by simpa using hn)]

theorem comm_gt (h : SOrd lt) {x y : α} {A B : List α} (hA : (x :: A).Pairwise lt) (hxy : lt y x) : (x :: A).filter (fun z => decide (z ∈ y :: B)) = (x :: A).filter (fun z => decide (z ∈ B)) := by
  apply List.filter_congr
  intro z hz
  have hne : z ≠ y := by
    rintro rfl
    rcases List.mem_cons.1 hz with e | e
    · subst e; exact h.irr _ hxy
    · exact h.irr _ (h.tr _ _ _ hxy ((List.pairwise_cons.1 hA).1 _ e))
  simp [hne]

theorem comm_eq (h : SOrd lt) {x : α} {A B : List α} (hA : (x :: A).Pairwise lt) : (x :: A).filter (fun z => decide (z ∈ x :: B)) = x :: A.filter (fun z => decide (z ∈ B)) := by
  rw [List.filter_cons, if_pos (by simp)]
  congr 1
  apply List.filter_congr
  intro z hz
  have hne : z ≠ x := by
    rintro rfl
    exact h.irr _ ((List.pairwise_cons.1 hA).1 _ hz)
  simp [hne]
end

/-! ### trees -/
def lst {α : Type} : BT α → List α
  | .nil => []
  | .node _ _ a l r => lst l ++ a :: lst r

/-- The type of a node's block. -/
class NTy (α : Type) where
  ty : TypeId
instance : NTy Int := ⟨325⟩
instance : NTy ByteArray := ⟨331⟩
/-- A node's second cell, and its block's type. -/
def Cnt (w : World) (b : Nat) (t : TypeId) (n : Nat) : Prop := w.cell? ⟨b, 1, none⟩ = some (.int .i64 (n : Int)) ∧ ∃ C fr, w.heap[b]? = some (Obj.cells C t fr)
theorem Cnt.same {w w' : World} {b : Nat} {t : TypeId} {n : Nat} (h : Cnt w b t n) (e : w'.heap[b]? = w.heap[b]?) : Cnt w' b t n := by
  obtain ⟨h, C, fr, hC⟩ := h
  exact ⟨by rw [← h]; simp only [World.cell?, e], C, fr, e.trans hC⟩

def InT {α : Type} [NTy α] (enc : α → Value) (w : World) : BT α → Prop
  | .nil => True
  | .node b o a l r => o = 0 ∧ w.cell? ⟨b, 0, none⟩ = some (enc a) ∧ Cnt w b (NTy.ty α) ((lst l).length + 1 + (lst r).length) ∧ w.cell? ⟨b, 2, none⟩ = some l.ptr ∧ w.cell? ⟨b, 3, none⟩ = some r.ptr ∧ InT enc w l ∧ InT enc w r

theorem InT.below {α : Type} [NTy α] {enc : α → Value} {w w' : World} (hb : Below w.heap.size w w') : ∀ {T : BT α}, InT enc w T → InT enc w' T
  | .nil, _ => trivial
  | .node b o a l r, ⟨h0, h1, h2, h3, h4, hl, hr⟩ => by
    have hlt : b < w.heap.size := World.block_lt_of_cell? _ _ h1
    exact ⟨h0, (hb.cell (p := ⟨b, 0, none⟩) hlt).trans h1, h2.same (hb.block b hlt), (hb.cell (p := ⟨b, 2, none⟩) hlt).trans h3, (hb.cell (p := ⟨b, 3, none⟩) hlt).trans h4, InT.below hb hl, InT.below hb hr⟩

theorem InT.drewN {α : Type} [NTy α] {enc : α → Value} {w w' : World} (hb : w'.heap = w.heap) : ∀ {T : BT α}, InT enc w T → InT enc w' T
  | .nil, _ => trivial
  | .node b o a l r, ⟨h0, h1, h2, h3, h4, hl, hr⟩ => by
    have hc : ∀ p, w'.cell? p = w.cell? p := by intro p; simp only [World.cell?, hb]
    exact ⟨h0, (hc _).trans h1, h2.same (by rw [hb]), (hc _).trans h3, (hc _).trans h4, InT.drewN hb hl, InT.drewN hb hr⟩

/-- Where something is put in. -/
theorem up_insert {α : Type} {lt : α → α → Prop} {L R : List α} {x : α} (hup : (L ++ R).Pairwise lt) (hL : ∀ y ∈ L, lt y x) (hR : ∀ y ∈ R, lt x y) : (L ++ x :: R).Pairwise lt := by
  rw [List.pairwise_append] at hup ⊢
  refine ⟨hup.1, ?_, ?_⟩
  · rw [List.pairwise_cons]; exact ⟨hR, hup.2.1⟩
  · intro a ha b hb
    rcases List.mem_cons.1 hb with e | e
    · subst e; exact hL _ ha
    · exact hup.2.2 a ha b e

/-- S is L with x put in, rising. -/
def Put {α : Type} (lt : α → α → Prop) (L : List α) (x : α) (S : List α) : Prop := S.Pairwise lt ∧ (∀ y, y ∈ S ↔ y = x ∨ y ∈ L) ∧ S.length = L.length + 1

section
variable {α : Type} {lt : α → α → Prop}

theorem put_nil (x : α) : Put lt [] x [x] := ⟨by simp, by simp, by simp⟩

theorem put_left {L R S : List α} {x a : α} (hup : (L ++ a :: R).Pairwise lt) (h : SOrd lt) (hx : lt x a) (hS : Put lt L x S) : Put lt (L ++ a :: R) x (S ++ a :: R) := by
  obtain ⟨h1, h2, h3⟩ := hS
  rw [List.pairwise_append] at hup
  refine ⟨?_, ?_, ?_⟩
  · rw [List.pairwise_append]
    refine ⟨h1, hup.2.1, ?_⟩
    intro y hy z hz
    rcases (h2 y).1 hy with e | e
    · subst e
      rcases List.mem_cons.1 hz with e' | e'
      · subst e'; exact hx
      · exact h.tr _ _ _ hx ((List.pairwise_cons.1 hup.2.1).1 _ e')
    · exact hup.2.2 y e z hz
  · intro y
    simp only [List.mem_append, h2]
    constructor
    · rintro ((e | e) | e)
      · exact Or.inl e
      · exact Or.inr (Or.inl e)
      · exact Or.inr (Or.inr e)
    · rintro (e | e | e)
      · exact Or.inl (Or.inl e)
      · exact Or.inl (Or.inr e)
      · exact Or.inr e
  · simp [h3]; omega

theorem put_right {L R S : List α} {x a : α} (hup : (L ++ a :: R).Pairwise lt) (h : SOrd lt) (hx : lt a x) (hS : Put lt R x S) : Put lt (L ++ a :: R) x (L ++ a :: S) := by
  obtain ⟨h1, h2, h3⟩ := hS
  rw [List.pairwise_append] at hup
  refine ⟨?_, ?_, ?_⟩
  · rw [List.pairwise_append]
    refine ⟨hup.1, ?_, ?_⟩
    · rw [List.pairwise_cons]
      refine ⟨?_, h1⟩
      intro y hy
      rcases (h2 y).1 hy with e | e
      · subst e; exact hx
      · exact (List.pairwise_cons.1 hup.2.1).1 _ e
    · intro y hy z hz
      rcases List.mem_cons.1 hz with e' | e'
      · subst e'; exact hup.2.2 y hy _ (by simp)
      · rcases (h2 z).1 e' with e | e
        · subst e; exact h.tr _ _ _ (hup.2.2 y hy a (by simp)) hx
        · exact hup.2.2 y hy z (by simp [e])
  · intro y
    simp only [List.mem_append, List.mem_cons, h2]
    constructor
    · rintro (e | e | e | e)
      · exact Or.inr (Or.inl e)
      · exact Or.inr (Or.inr (Or.inl e))
      · exact Or.inl e
      · exact Or.inr (Or.inr (Or.inr e))
    · rintro (e | e | e | e)
      · exact Or.inr (Or.inr (Or.inl e))
      · exact Or.inl e
      · exact Or.inr (Or.inl e)
      · exact Or.inr (Or.inr (Or.inr e))
  · simp [h3]; omega

/-- Is it there: where to go on. -/
theorem mem_less {L R : List α} {x a : α} (hup : (L ++ a :: R).Pairwise lt) (h : SOrd lt) (hx : lt x a) : x ∈ L ++ a :: R ↔ x ∈ L := by
  rw [List.pairwise_append] at hup
  constructor
  · intro hm
    rcases List.mem_append.1 hm with e | e
    · exact e
    · rcases List.mem_cons.1 e with e' | e'
      · subst e'; exact absurd hx (h.irr _)
      · exact absurd (h.tr _ _ _ hx ((List.pairwise_cons.1 hup.2.1).1 _ e')) (h.irr _)
  · intro e; simp [e]

theorem mem_more {L R : List α} {x a : α} (hup : (L ++ a :: R).Pairwise lt) (h : SOrd lt) (hx : lt a x) : x ∈ L ++ a :: R ↔ x ∈ R := by
  rw [List.pairwise_append] at hup
  constructor
  · intro hm
    rcases List.mem_append.1 hm with e | e
    · exact absurd (h.tr _ _ _ (hup.2.2 x e a (by simp)) hx) (h.irr _)
    · rcases List.mem_cons.1 e with e' | e'
      · subst e'; exact absurd hx (h.irr _)
      · exact e'
  · intro e; simp [e]

variable [DecidableRel lt]
/-- Those from lo to hi. -/
def btw (lt : α → α → Prop) [DecidableRel lt] (lo hi : α) (l : List α) : List α := l.filter fun x => !decide (lt x lo) && !decide (lt hi x)

theorem btw_low {L R : List α} {lo hi a : α} (hup : (L ++ a :: R).Pairwise lt) (h : SOrd lt) (hx : ¬ lt lo a) : btw lt lo hi L = [] := by
  rw [List.pairwise_append] at hup
  unfold btw
  rw [List.filter_eq_nil_iff]
  intro y hy
  have h1 := hup.2.2 y hy a (by simp)
  have : lt y lo := by
    rcases h.tri lo a with e | e | e
    · exact absurd e hx
    · subst e; exact h1
    · exact h.tr _ _ _ h1 e
  simp [this]

theorem btw_high {L R : List α} {lo hi a : α} (hup : (L ++ a :: R).Pairwise lt) (h : SOrd lt) (hx : ¬ lt a hi) : btw lt lo hi R = [] := by
  rw [List.pairwise_append] at hup
  unfold btw
  rw [List.filter_eq_nil_iff]
  intro y hy
  have h1 := (List.pairwise_cons.1 hup.2.1).1 y hy
  have : lt hi y := by
    rcases h.tri a hi with e | e | e
    · exact absurd e hx
    · subst e; exact h1
    · exact h.tr _ _ _ e h1
  simp [this]

theorem btw_node (lo hi a : α) (L R : List α) : btw lt lo hi (L ++ a :: R) = btw lt lo hi L ++ ((if ¬ lt a lo ∧ ¬ lt hi a then [a] else []) ++ btw lt lo hi R) := by
  unfold btw
  rw [List.filter_append, List.filter_cons]
  by_cases c : ¬ lt a lo ∧ ¬ lt hi a
  · rw [if_pos c, if_pos (by simp [c.1, c.2])]; rfl
  · rw [if_neg c, if_neg]
    · rfl
    · intro e
      simp at e
      exact c e
end

end Go.Proofs.YtkncboinfcnklaaGreatDoor.Mth
