import Derived.Test.YtkncboinfcnklaaGreatDoorMath1
import Derived.Test.YtkncboinfcnklaaGreatDoorMath2
import Derived.Lib.OwnBridge
import Derived.Sort.Grow
import Derived.Laws.AppendOwn
namespace Go.Proofs.YtkncboinfcnklaaGreatDoor.Mth
open Go.Lib Go.Sort Go.RowKit

section
variable {α : Type} [Inhabited α]

theorem heap_srt {enc : α → Value} {w : World} {g n : Nat} {os : Array Obj} {cur : Array Value} {e : TypeId} {fr : Nat × Nat} (d : Array α) (hb : w.heap[g]? = some (.cells cur e fr)) :
    (grow (putRow enc (Sort.ahead w n) g 0 d) os).heap[g]? = some (.cells (putCells enc 0 d cur) e fr) := by
  have hg : g < w.heap.size := (Array.getElem?_eq_some_iff.1 hb).1
  rw [heap_grow_old _ _ (by simpa using hg)]
  simp [putRow, mapBlock, Sort.ahead, Array.getElem?_modify, hb, onCells]

theorem grownBy_srt {enc : α → Value} {w : World} {g n : Nat} {os : Array Obj} (d : Array α) : w.grownBy (grow (putRow enc (Sort.ahead w n) g 0 d) os) (some g) := by
  refine ⟨rfl, rfl, rfl, by simp, fun k hk hne => ?_⟩
  rw [heap_grow_old _ _ (by simpa using hk)]
  have : g ≠ k := fun e => hne (by rw [e])
  simp [putRow, mapBlock, Sort.ahead, Array.getElem?_modify, this]

theorem take_srt {enc : α → Value} (cur : Array Value) (ts : List α) (h : ts.length ≤ cur.size) : (putCells enc 0 ts.toArray cur).toList.take ts.length = ts.map enc := by
  apply List.ext_getElem?
  intro j
  by_cases hj : j < ts.length
  · rw [List.getElem?_take_of_lt hj, Array.getElem?_toList]
    simp [putCells, hj, show j < cur.size by omega]
  · rw [List.getElem?_take_eq_none (by omega), List.getElem?_eq_none (by simp; omega)]

theorem ownsRow_srt {enc : α → Value} {w : World} {base g cap n k : Nat} {e : TypeId} {os : Array Obj} {ss ts : List α} (hl : ts.length = ss.length)
    (h : w.ownsRow base e 1 (.slice (some ⟨g, 0, none⟩) k cap) k (ss.map enc)) :
    (grow (putRow enc (Sort.ahead w n) g 0 ts.toArray) os).ownsRow base e 1 (.slice (some ⟨g, 0, none⟩) k cap) k (ts.map enc) := by
  have hk : ss.length = k := by simpa using h.1
  rcases h.2 with ⟨h0, _⟩ | ⟨g', cap', cur, hv, hbase, hb, h1, h2, h3, h4⟩
  · cases h0
  cases hv
  exact ⟨by simp [hl, hk], .inr ⟨g, cap, _, rfl, hbase, heap_srt _ hb, h1, h2, by simp [putCells, h3], by rw [Nat.mul_one, ← hk, ← hl]; exact take_srt cur ts (by omega)⟩⟩

/-- Behind the sort and the compaction: the slice owns what is kept; below the call's own blocks nothing has turned. -/
theorem srt_end [DecidableEq α] {enc : α → Value} {w0 w1 : World} {B base g cap k nn q : Nat} {e : TypeId} {os : Array Obj} {ss ts : List α} {z : α} (hl : ts.length = ss.length)
    (h : w1.ownsRow base e 1 (.slice (some ⟨g, 0, none⟩) k cap) k (ss.map enc)) (hbel : Below B w0 w1) (hB : B ≤ base) (hB1 : B ≤ w1.heap.size) :
    (putRow enc (Sort.ahead (grow (putRow enc (Sort.ahead w1 nn) g 0 ts.toArray) os) q) g 0 (compact ts ++ List.replicate (k - (compact ts).length) z).toArray).ownsRow base e 1
      (.slice (some ⟨g, 0, none⟩) (compact ts).length cap) (compact ts).length ((compact ts).map enc) ∧
    Below B w0 (putRow enc (Sort.ahead (grow (putRow enc (Sort.ahead w1 nn) g 0 ts.toArray) os) q) g 0 (compact ts ++ List.replicate (k - (compact ts).length) z).toArray) := by
  have hk : ss.length = k := by simpa using h.1
  have hle := compact_length_le ts
  have hbg : base ≤ g := by
    rcases h.2 with ⟨h0, _⟩ | ⟨g', cap', cur, hv, hbase, hb, h1, h2, h3, h4⟩
    · cases h0
    cases hv
    exact hbase
  have hs := ownsRow_srt (n := nn) (os := os) hl h
  have hc := ownsRow_putRow (q := q) (k := (compact ts).length) (ys := compact ts ++ List.replicate (k - (compact ts).length) z) hs (by simp; omega) (by omega)
  rw [List.take_left] at hc
  exact ⟨hc, below_putRow (hbel.grown (grownBy_srt _) hB1 (fun j hj => by cases hj; omega)) (by omega)⟩
end

end Go.Proofs.YtkncboinfcnklaaGreatDoor.Mth
