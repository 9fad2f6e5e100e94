import Derived.Lib.SlicesCompact
import Derived.Deep.Trees
import Derived.Below
import Derived.Lib.OwnBridge
import Derived.Sort.Grow
import Derived.Laws.AppendOwn
import Derived.Sort.Walk0
namespace Go.Proofs.YtkncboinfcnklabGreatDoor.Mth
open Go.Lib

section
variable {α : Type} {lt : α → α → Prop}

/-- Two strictly rising lists of the same things are one. -/
theorem up_ext (irr : ∀ a, ¬ lt a a) (tr : ∀ a b c, lt a b → lt b c → lt a c) : ∀ {l m : List α}, l.Pairwise lt → m.Pairwise lt → (∀ x, x ∈ l ↔ x ∈ m) → l = m := by
  intro l
  induction l with
  | nil =>
    intro m _ _ h
    cases m with
    | nil => rfl
    | cons y m => have := (h y).2 (by simp); simp at this
  | cons x l ih =>
    intro m hl hm h
    cases m with
    | nil => have := (h x).1 (by simp); simp at this
    | cons y m =>
      rw [List.pairwise_cons] at hl hm
      have e : x = y := by
        rcases List.mem_cons.1 ((h x).1 (by simp)) with e | e
        · exact e
        · rcases List.mem_cons.1 ((h y).2 (by simp)) with e' | e'
          · exact e'.symm
          · exact absurd (tr _ _ _ (hl.1 y e') (hm.1 x e)) (irr x)
      subst e
      rw [ih hl.2 hm.2 ?_]
      intro z
      constructor
      · intro hz
        rcases List.mem_cons.1 ((h z).1 (by simp [hz])) with e | e
        · subst e; exact absurd (hl.1 _ hz) (irr _)
        · exact e
      · intro hz
        rcases List.mem_cons.1 ((h z).2 (by simp [hz])) with e | e
        · subst e; exact absurd (hm.1 _ hz) (irr _)
        · exact e

end

section
variable {α : Type} [Inhabited α] [DecidableEq α] {le lt : α → α → Prop}

/-- Of a sorted row: what is kept rises strictly, and is what stood there. -/
theorem compactUpTo_up (hlt : ∀ a b, le a b → a ≠ b → lt a b) (hll : ∀ a b c, lt a b → le b c → lt a c) (d : Array α)
    (hs : ∀ i, i + 1 < d.size → le d[i]! d[i + 1]!) (m : Nat) (hm : m ≤ d.size) :
    (compactUpTo d m).Pairwise lt ∧ (∀ x, x ∈ compactUpTo d m ↔ ∃ j, j < m ∧ d[j]! = x) ∧ (∀ x ∈ compactUpTo d m, x = d[m - 1]! ∨ lt x d[m - 1]!) := by
  induction m with
  | zero => simp [compactUpTo]
  | succ m ih =>
    obtain ⟨h1, h2, h3⟩ := ih (by omega)
    rw [compactUpTo_succ]
    by_cases k : keeps d m = true
    · rw [if_pos k]
      have hlast : ∀ x ∈ compactUpTo d m, lt x d[m]! := by
        intro x hx
        have hpos : 0 < m := by
          rcases Nat.eq_zero_or_pos m with e | e
          · subst e; simp [compactUpTo] at hx
          · exact e
        have hne : d[m]! ≠ d[m - 1]! := by
          have := of_decide_eq_true k
          rcases this with e | e
          · omega
          · exact e
        have hle := hs (m - 1) (by omega)
        rw [show m - 1 + 1 = m by omega] at hle
        rcases h3 x hx with e | e
        · subst e; exact hlt _ _ hle (Ne.symm hne)
        · exact hll _ _ _ e hle
      refine ⟨?_, ?_, ?_⟩
      · rw [List.pairwise_append]
        refine ⟨h1, by simp, ?_⟩
        intro a ha b hb
        simp at hb
        subst hb
        exact hlast a ha
      · intro x
        simp only [List.mem_append, List.mem_singleton, h2]
        constructor
        · rintro (⟨j, hj, e⟩ | e)
          · exact ⟨j, by omega, e⟩
          · exact ⟨m, by omega, e.symm⟩
        · rintro ⟨j, hj, e⟩
          rcases Nat.lt_or_ge j m with h | h
          · exact Or.inl ⟨j, h, e⟩
          · have : j = m := by omega
            subst this; exact Or.inr e.symm
      · intro x hx
        rw [show m + 1 - 1 = m by omega]
        simp only [List.mem_append, List.mem_singleton] at hx
        rcases hx with hx | hx
        · exact Or.inr (hlast x hx)
        · exact Or.inl hx
    · have k' : ¬ (m = 0 ∨ d[m]! ≠ d[m - 1]!) := by simpa [keeps] using k
      have hpos : 0 < m := by omega
      have he : d[m]! = d[m - 1]! := by
        by_cases e : d[m]! = d[m - 1]!
        · exact e
        · exact absurd (Or.inr e) k'
      rw [if_neg k, List.append_nil, show m + 1 - 1 = m by omega, he]
      refine ⟨h1, ?_, h3⟩
      intro x
      rw [h2]
      constructor
      · rintro ⟨j, hj, e⟩; exact ⟨j, by omega, e⟩
      · rintro ⟨j, hj, e⟩
        rcases Nat.lt_or_ge j m with h | h
        · exact ⟨j, h, e⟩
        · have : j = m := by omega
          subst this
          exact ⟨j - 1, by omega, by rw [← he]; exact e⟩

theorem compact_up (hlt : ∀ a b, le a b → a ≠ b → lt a b) (hll : ∀ a b c, lt a b → le b c → lt a c) (l : List α) (hs : l.Pairwise le) :
    (compact l).Pairwise lt ∧ (∀ x, x ∈ compact l ↔ x ∈ l) := by
  have h := compactUpTo_up hlt hll l.toArray (by
    intro i hi
    have hi' : i + 1 < l.length := by simpa using hi
    rw [List.pairwise_iff_getElem] at hs
    have := hs i (i + 1) (by omega) hi' (by omega)
    simpa [getElem!_pos, hi', show i < l.length by omega] using this) l.length (by simp)
  refine ⟨h.1, ?_⟩
  intro x
  rw [show compact l = compactUpTo l.toArray l.length from rfl, h.2.1]
  constructor
  · rintro ⟨j, hj, e⟩
    rw [← e]
    simp [getElem!_pos, hj]
  · intro hx
    obtain ⟨j, hj, e⟩ := List.mem_iff_getElem.1 hx
    exact ⟨j, hj, by simp [getElem!_pos, hj, e]⟩
end

end Go.Proofs.YtkncboinfcnklabGreatDoor.Mth

namespace Go.Proofs.YtkncboinfcnklabGreatDoor.Mth
open Go.Deep Go.RowKit

/-- A strict order of which any two can be held against each other. -/
structure SOrd {α : Type} (lt : α → α → Prop) : Prop where
  irr : ∀ a, ¬ lt a a
  tr : ∀ a b c, lt a b → lt b c → lt a c
  tri : ∀ a b, lt a b ∨ a = b ∨ lt b a

theorem sordInt : SOrd (fun a b : Int => a < b) := ⟨fun a h => by omega, fun a b c h1 h2 => by omega, fun a b => by omega⟩

section
variable {α : Type} {lt : α → α → Prop} [DecidableEq α]

/-! ### what stands in both -/
end

/-! ### trees -/
def lst {α : Type} : BT α → List α
  | .nil => []
  | .node _ _ a l r => lst l ++ a :: lst r

/-- The type of a node's block. -/
class NTy (α : Type) where
  ty : TypeId
instance : NTy Int := ⟨172⟩
/-- A node's second cell, and its block's type. -/
def Cnt (w : World) (b : Nat) (t : TypeId) (n : Nat) : Prop := w.cell? ⟨b, 1, none⟩ = some (.int .i64 (n : Int)) ∧ ∃ C fr, w.heap[b]? = some (Obj.cells C t fr)
theorem Cnt.same {w w' : World} {b : Nat} {t : TypeId} {n : Nat} (h : Cnt w b t n) (e : w'.heap[b]? = w.heap[b]?) : Cnt w' b t n := by
  obtain ⟨h, C, fr, hC⟩ := h
  exact ⟨by rw [← h]; simp only [World.cell?, e], C, fr, e.trans hC⟩

def InT {α : Type} [NTy α] (enc : α → Value) (w : World) : BT α → Prop
  | .nil => True
  | .node b o a l r => o = 0 ∧ w.cell? ⟨b, 0, none⟩ = some (enc a) ∧ Cnt w b (NTy.ty α) ((lst l).length + 1 + (lst r).length) ∧ w.cell? ⟨b, 2, none⟩ = some l.ptr ∧ w.cell? ⟨b, 3, none⟩ = some r.ptr ∧ InT enc w l ∧ InT enc w r

theorem InT.below {α : Type} [NTy α] {enc : α → Value} {w w' : World} (hb : Below w.heap.size w w') : ∀ {T : BT α}, InT enc w T → InT enc w' T
  | .nil, _ => trivial
  | .node b o a l r, ⟨h0, h1, h2, h3, h4, hl, hr⟩ => by
    have hlt : b < w.heap.size := World.block_lt_of_cell? _ _ h1
    exact ⟨h0, (hb.cell (p := ⟨b, 0, none⟩) hlt).trans h1, h2.same (hb.block b hlt), (hb.cell (p := ⟨b, 2, none⟩) hlt).trans h3, (hb.cell (p := ⟨b, 3, none⟩) hlt).trans h4, InT.below hb hl, InT.below hb hr⟩

theorem InT.drewN {α : Type} [NTy α] {enc : α → Value} {w w' : World} (hb : w'.heap = w.heap) : ∀ {T : BT α}, InT enc w T → InT enc w' T
  | .nil, _ => trivial
  | .node b o a l r, ⟨h0, h1, h2, h3, h4, hl, hr⟩ => by
    have hc : ∀ p, w'.cell? p = w.cell? p := by intro p; simp only [World.cell?, hb]
    exact ⟨h0, (hc _).trans h1, h2.same (by rw [hb]), (hc _).trans h3, (hc _).trans h4, InT.drewN hb hl, InT.drewN hb hr⟩

/-- S is L with x put in, rising. -/
def Put {α : Type} (lt : α → α → Prop) (L : List α) (x : α) (S : List α) : Prop := S.Pairwise lt ∧ (∀ y, y ∈ S ↔ y = x ∨ y ∈ L) ∧ S.length = L.length + 1

section
variable {α : Type} {lt : α → α → Prop}

theorem put_nil (x : α) : Put lt [] x [x] := ⟨by simp, by simp, by simp⟩

theorem put_left {L R S : List α} {x a : α} (hup : (L ++ a :: R).Pairwise lt) (h : SOrd lt) (hx : lt x a) (hS : Put lt L x S) : Put lt (L ++ a :: R) x (S ++ a :: R) := by
  obtain ⟨h1, h2, h3⟩ := hS
  rw [List.pairwise_append] at hup
  refine ⟨?_, ?_, ?_⟩
  · rw [List.pairwise_append]
    refine ⟨h1, hup.2.1, ?_⟩
    intro y hy z hz
    rcases (h2 y).1 hy with e | e
    · subst e
      rcases List.mem_cons.1 hz with e' | e'
      · subst e'; exact hx
      · exact h.tr _ _ _ hx ((List.pairwise_cons.1 hup.2.1).1 _ e')
    · exact hup.2.2 y e z hz
  · intro y
    simp only [List.mem_append, h2]
    constructor
    · rintro ((e | e) | e)
      · exact Or.inl e
      · exact Or.inr (Or.inl e)
      · exact Or.inr (Or.inr e)
    · rintro (e | e | e)
      · exact Or.inl (Or.inl e)
      · exact Or.inl (Or.inr e)
      · exact Or.inr e
  · simp [h3]; omega

theorem put_right {L R S : List α} {x a : α} (hup : (L ++ a :: R).Pairwise lt) (h : SOrd lt) (hx : lt a x) (hS : Put lt R x S) : Put lt (L ++ a :: R) x (L ++ a :: S) := by
  obtain ⟨h1, h2, h3⟩ := hS
  rw [List.pairwise_append] at hup
  refine ⟨?_, ?_, ?_⟩
  · rw [List.pairwise_append]
    refine ⟨hup.1, ?_, ?_⟩
    · rw [List.pairwise_cons]
      refine ⟨?_, h1⟩
      intro y hy
      rcases (h2 y).1 hy with e | e
      · subst e; exact hx
      · exact (List.pairwise_cons.1 hup.2.1).1 _ e
    · intro y hy z hz
      rcases List.mem_cons.1 hz with e' | e'
      · subst e'; exact hup.2.2 y hy _ (by simp)
      · rcases (h2 z).1 e' with e | e
        · subst e; exact h.tr _ _ _ (hup.2.2 y hy a (by simp)) hx
        · exact hup.2.2 y hy z (by simp [e])
  · intro y
    simp only [List.mem_append, List.mem_cons, h2]
    constructor
    · rintro (e | e | e | e)
      · exact Or.inr (Or.inl e)
      · exact Or.inr (Or.inr (Or.inl e))
      · exact Or.inl e
      · exact Or.inr (Or.inr (Or.inr e))
    · rintro (e | e | e | e)
      · exact Or.inr (Or.inr (Or.inl e))
      · exact Or.inl e
      · exact Or.inr (Or.inl e)
      · exact Or.inr (Or.inr (Or.inr e))
  · simp [h3]; omega

/-- Is it there: where to go on. -/
theorem mem_less {L R : List α} {x a : α} (hup : (L ++ a :: R).Pairwise lt) (h : SOrd lt) (hx : lt x a) : x ∈ L ++ a :: R ↔ x ∈ L := by
  rw [List.pairwise_append] at hup
  constructor
  · intro hm
    rcases List.mem_append.1 hm with e | e
    · exact e
    · rcases List.mem_cons.1 e with e' | e'
      · subst e'; exact absurd hx (h.irr _)
      · exact absurd (h.tr _ _ _ hx ((List.pairwise_cons.1 hup.2.1).1 _ e')) (h.irr _)
  · intro e; simp [e]

theorem mem_more {L R : List α} {x a : α} (hup : (L ++ a :: R).Pairwise lt) (h : SOrd lt) (hx : lt a x) : x ∈ L ++ a :: R ↔ x ∈ R := by
  rw [List.pairwise_append] at hup
  constructor
  · intro hm
    rcases List.mem_append.1 hm with e | e
    · exact absurd (h.tr _ _ _ (hup.2.2 x e a (by simp)) hx) (h.irr _)
    · rcases List.mem_cons.1 e with e' | e'
      · subst e'; exact absurd hx (h.irr _)
      · exact e'
  · intro e; simp [e]

variable [DecidableRel lt]
/-- Those from lo to hi. -/
def btw (lt : α → α → Prop) [DecidableRel lt] (lo hi : α) (l : List α) : List α := l.filter fun x => !decide (lt x lo) && !decide (lt hi x)

theorem btw_low {L R : List α} {lo hi a : α} (hup : (L ++ a :: R).Pairwise lt) (h : SOrd lt) (hx : ¬ lt lo a) : btw lt lo hi L = [] := by
  rw [List.pairwise_append] at hup
  unfold btw
  rw [List.filter_eq_nil_iff]
  intro y hy
  have h1 := hup.2.2 y hy a (by simp)
  have : lt y lo := by
    rcases h.tri lo a with e | e | e
    · exact absurd e hx
    · subst e; exact h1
    · exact h.tr _ _ _ h1 e
  simp [this]

theorem btw_high {L R : List α} {lo hi a : α} (hup : (L ++ a :: R).Pairwise lt) (h : SOrd lt) (hx : ¬ lt a hi) : btw lt lo hi R = [] := by
  rw [List.pairwise_append] at hup
  unfold btw
  rw [List.filter_eq_nil_iff]
  intro y hy
  have h1 := (List.pairwise_cons.1 hup.2.1).1 y hy
  have : lt hi y := by
    rcases h.tri a hi with e | e | e
    · exact absurd e hx
    · subst e; exact h1
    · exact h.tr _ _ _ e h1
  simp [this]

theorem btw_node (lo hi a : α) (L R : List α) : btw lt lo hi (L ++ a :: R) = btw lt lo hi L ++ ((if ¬ lt a lo ∧ ¬ lt hi a then [a] else []) ++ btw lt lo hi R) := by
  unfold btw
  rw [List.filter_append, List.filter_cons]
  by_cases c : ¬ lt a lo ∧ ¬ lt hi a
  · rw [if_pos c, if_pos (by simp [c.1, c.2])]; rfl
  · rw [if_neg c, if_neg]
    · rfl
    · intro e
      simp at e
      exact c e
end

/-- A block that was there stays. (The library has this twice, in two shapes: which one is met hangs on the order of imports.) -/
theorem hAO (w : World) (o : Obj) {r : Nat} (h : r < w.heap.size) : (w.alloc o).heap[r]? = w.heap[r]? := ((Below.refl _ w).alloc (Nat.le_refl _) o).block r h
end Go.Proofs.YtkncboinfcnklabGreatDoor.Mth

namespace Go.Proofs.YtkncboinfcnklabGreatDoor.Mth
open Go.Lib Go.Sort Go.RowKit

section
variable {α : Type} [Inhabited α]

theorem heap_srt {enc : α → Value} {w : World} {g n : Nat} {os : Array Obj} {cur : Array Value} {e : TypeId} {fr : Nat × Nat} (d : Array α) (hb : w.heap[g]? = some (.cells cur e fr)) :
    (grow (putRow enc (Sort.ahead w n) g 0 d) os).heap[g]? = some (.cells (putCells enc 0 d cur) e fr) := by
  have hg : g < w.heap.size := (Array.getElem?_eq_some_iff.1 hb).1
  rw [heap_grow_old _ _ (by simpa using hg)]
  simp [putRow, mapBlock, Sort.ahead, Array.getElem?_modify, hb, onCells]

theorem grownBy_srt {enc : α → Value} {w : World} {g n : Nat} {os : Array Obj} (d : Array α) : w.grownBy (grow (putRow enc (Sort.ahead w n) g 0 d) os) (some g) := by
  refine ⟨rfl, rfl, rfl, by simp, fun k hk hne => ?_⟩
  rw [heap_grow_old _ _ (by simpa using hk)]
  have : g ≠ k := fun e => hne (by rw [e])
  simp [putRow, mapBlock, Sort.ahead, Array.getElem?_modify, this]

theorem take_srt {enc : α → Value} (cur : Array Value) (ts : List α) (h : ts.length ≤ cur.size) : (putCells enc 0 ts.toArray cur).toList.take ts.length = ts.map enc := by
  apply List.ext_getElem?
  intro j
  by_cases hj : j < ts.length
  · rw [List.getElem?_take_of_lt hj, Array.getElem?_toList]
    simp [putCells, hj, show j < cur.size by omega]
  · rw [List.getElem?_take_eq_none (by omega), List.getElem?_eq_none (by simp; omega)]

theorem ownsRow_srt {enc : α → Value} {w : World} {base g cap n k : Nat} {e : TypeId} {os : Array Obj} {ss ts : List α} (hl : ts.length = ss.length)
    (h : w.ownsRow base e 1 (.slice (some ⟨g, 0, none⟩) k cap) k (ss.map enc)) :
    (grow (putRow enc (Sort.ahead w n) g 0 ts.toArray) os).ownsRow base e 1 (.slice (some ⟨g, 0, none⟩) k cap) k (ts.map enc) := by
  have hk : ss.length = k := by simpa using h.1
  rcases h.2 with ⟨h0, _⟩ | ⟨g', cap', cur, hv, hbase, hb, h1, h2, h3, h4⟩
  · cases h0
  cases hv
  exact ⟨by simp [hl, hk], .inr ⟨g, cap, _, rfl, hbase, heap_srt _ hb, h1, h2, by simp [putCells, h3], by rw [Nat.mul_one, ← hk, ← hl]; exact take_srt cur ts (by omega)⟩⟩

/-- Behind the sort and the compaction: the slice owns what is kept; below the call's own blocks nothing has turned. -/
theorem srt_end [DecidableEq α] {enc : α → Value} {w0 w1 : World} {B base g cap k nn q : Nat} {e : TypeId} {os : Array Obj} {ss ts : List α} {z : α} (hl : ts.length = ss.length)
    (h : w1.ownsRow base e 1 (.slice (some ⟨g, 0, none⟩) k cap) k (ss.map enc)) (hbel : Below B w0 w1) (hB : B ≤ base) (hB1 : B ≤ w1.heap.size) :
    (putRow enc (Sort.ahead (grow (putRow enc (Sort.ahead w1 nn) g 0 ts.toArray) os) q) g 0 (compact ts ++ List.replicate (k - (compact ts).length) z).toArray).ownsRow base e 1
      (.slice (some ⟨g, 0, none⟩) (compact ts).length cap) (compact ts).length ((compact ts).map enc) ∧
    Below B w0 (putRow enc (Sort.ahead (grow (putRow enc (Sort.ahead w1 nn) g 0 ts.toArray) os) q) g 0 (compact ts ++ List.replicate (k - (compact ts).length) z).toArray) := by
  have hk : ss.length = k := by simpa using h.1
  have hle := compact_length_le ts
  have hbg : base ≤ g := by
    rcases h.2 with ⟨h0, _⟩ | ⟨g', cap', cur, hv, hbase, hb, h1, h2, h3, h4⟩
    · cases h0
    cases hv
    exact hbase
  have hs := ownsRow_srt (n := nn) (os := os) hl h
  have hc := ownsRow_putRow (q := q) (k := (compact ts).length) (ys := compact ts ++ List.replicate (k - (compact ts).length) z) hs (by simp; omega) (by omega)
  rw [List.take_left] at hc
  exact ⟨hc, below_putRow (hbel.grown (grownBy_srt _) hB1 (fun j hj => by cases hj; omega)) (by omega)⟩
end

end Go.Proofs.YtkncboinfcnklabGreatDoor.Mth

namespace Go.Proofs.YtkncboinfcnklabGreatDoor.Mth
open Go.Lib

/-- Is it there? -/
abbrev memD {α : Type} [DecidableEq α] (x : α) (l : List α) : Bool := decide (x ∈ l)

theorem memD_true {α : Type} [DecidableEq α] {x : α} {l : List α} (h : x ∈ l) : memD x l = true := decide_eq_true h
theorem memD_false {α : Type} [DecidableEq α] {x : α} {l : List α} (h : ¬ x ∈ l) : memD x l = false := decide_eq_false h
/-- Byte by byte. -/
abbrev ltS (a b : ByteArray) : Prop := a.data.toList < b.data.toList

theorem bytes_ext {a b : ByteArray} (h : a.data.toList = b.data.toList) : a = b := by
  cases a
  cases b
  simp at h
  subst h
  rfl

theorem sordS : SOrd ltS := by
  refine ⟨fun a => List.lt_irrefl _, fun a b c h1 h2 => List.lt_trans h1 h2, fun a b => ?_⟩
  by_cases h1 : a.data.toList < b.data.toList
  · exact Or.inl h1
  · by_cases h2 : b.data.toList < a.data.toList
    · exact Or.inr (Or.inr h2)
    · exact Or.inr (Or.inl (bytes_ext (List.le_antisymm (List.not_lt.1 h2) (List.not_lt.1 h1))))

theorem eq_eq (a b : ByteArray) : (a.toList == b.toList) = decide (a = b) := by
  rw [Lib.toList_data, Lib.toList_data, Bool.eq_iff_iff]
  simp only [beq_iff_eq, decide_eq_true_iff]
  exact ⟨bytes_ext, fun h => by rw [h]⟩

def ofL (l : List UInt8) : ByteArray := ⟨l.toArray⟩
theorem ofL_data (l : List UInt8) : (ofL l).data.toList = l := rfl
theorem ofL_of (s : ByteArray) : ofL s.data.toList = s := bytes_ext rfl

/-- THE MERGED LIST of texts, as lists of bytes, and as texts. -/
def mergedL (l : List ByteArray) : List (List UInt8) := compact ((l.map (·.data.toList)).mergeSort fun x y => decide (x ≤ y))
def mergedS (l : List ByteArray) : List ByteArray := (mergedL l).map ofL

theorem mergedL_up (l : List ByteArray) : (mergedL l).Pairwise (· < ·) ∧ ∀ x, x ∈ mergedL l ↔ x ∈ l.map (·.data.toList) := by
  have hs : ((l.map (·.data.toList)).mergeSort fun x y => decide (x ≤ y)).Pairwise (fun a b => a ≤ b) := by
    have := List.pairwise_mergeSort (le := fun x y : List UInt8 => decide (x ≤ y)) (by intro a b c h1 h2; simp only [decide_eq_true_iff] at h1 h2 ⊢; exact List.le_trans h1 h2) (by intro a b; rcases List.le_total a b with h | h <;> simp [h]) (l.map (·.data.toList))
    simpa using this
  have h := compact_up (lt := fun a b : List UInt8 => a < b) (le := fun a b : List UInt8 => a ≤ b)
    (by intro a b h1 h2; by_cases c : a < b; exact c; exact absurd (List.le_antisymm h1 (List.not_lt.1 c)) h2)
    (by
      intro a b c h1 h2
      by_cases e : b = c
      · subst e; exact h1
      · by_cases d : b < c
        · exact List.lt_trans h1 d
        · exact absurd (List.le_antisymm h2 (List.not_lt.1 d)) e) _ hs
  exact ⟨h.1, fun x => by rw [show mergedL l = compact ((l.map (·.data.toList)).mergeSort fun x y => decide (x ≤ y)) from rfl, h.2 x, List.mem_mergeSort]⟩

theorem mergedS_up (l : List ByteArray) : (mergedS l).Pairwise ltS ∧ ∀ x, x ∈ mergedS l ↔ x ∈ l := by
  have h := mergedL_up l
  refine ⟨?_, ?_⟩
  · unfold mergedS
    rw [List.pairwise_map]
    exact h.1
  · intro x
    unfold mergedS
    rw [List.mem_map]
    constructor
    · rintro ⟨y, hy, rfl⟩
      obtain ⟨z, hz, e⟩ := List.mem_map.1 ((h.2 y).1 hy)
      have : ofL y = z := by rw [← e]; exact ofL_of z
      rw [this]; exact hz
    · intro hx
      exact ⟨x.data.toList, (h.2 _).2 (List.mem_map.2 ⟨x, hx, rfl⟩), ofL_of x⟩

theorem mergedS_ext {l m : List ByteArray} (hm : m.Pairwise ltS) (h : ∀ x, x ∈ m ↔ x ∈ l) : m = mergedS l :=
  up_ext sordS.irr sordS.tr hm (mergedS_up l).1 (fun x => by rw [h, (mergedS_up l).2])

theorem mergedS_len (l : List ByteArray) : (mergedS l).length ≤ l.length := by
  unfold mergedS mergedL
  rw [List.length_map]
  have h1 : (compact ((l.map (·.data.toList)).mergeSort fun x y => decide (x ≤ y))).length ≤ ((l.map (·.data.toList)).mergeSort fun x y => decide (x ≤ y)).length := by
    unfold compact compactUpTo
    rw [List.length_map]
    exact Nat.le_trans (List.length_filter_le _ _) (by simp)
  rw [List.length_mergeSort, List.length_map] at h1
  exact h1

end Go.Proofs.YtkncboinfcnklabGreatDoor.Mth
