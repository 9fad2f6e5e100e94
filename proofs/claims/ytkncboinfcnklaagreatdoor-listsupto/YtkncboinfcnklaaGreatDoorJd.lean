import Derived.Test.YtkncboinfcnklaaGreatDoorJb
import Derived.Test.YtkncboinfcnklaaGreatDoorJc
namespace Go.Proofs.YtkncboinfcnklaaGreatDoor.WI
open Go.RowKit Go.Deep Go.Proofs.YtkncboinfcnklaaGreatDoor.Mth

/-- The sets without their rows. -/
structure SCore (w : World) (B : Nat) (ns M : Nat) (sb : Nat → Nat) (T : Nat → BT Int) (r : Nat → Value) : Prop where
  one : ∀ i, i < ns → SetAt w (sb i) (T i)
  typ : ∀ i, i < ns → ∃ D, w.heap[sb i]? = some (Obj.cells D 208 (0, 0))
  ge : ∀ i, i < ns → B ≤ sb i
  own : ∀ i, i < ns → w.ownsRow B 3 1 (r i) (lst (T i)).length ((lst (T i)).map eI)
  len : ∀ i, i < ns → (lst (T i)).length ≤ M
  ap : ∀ i j, i < ns → j < ns → sb i = sb j → i = j
theorem SSet.core {w : World} {B : Nat} {iv rv : Value} {ns M : Nat} {sb : Nat → Nat} {T : Nat → BT Int} {r : Nat → Value} (h : SSet w B iv rv ns M sb T r) : SCore w B ns M sb T r := ⟨h.one, h.typ, h.ge, h.own, h.len, h.ap⟩
theorem SCore.keep {w w' : World} {B : Nat} {ns M : Nat} {sb : Nat → Nat} {T : Nat → BT Int} {r : Nat → Value} (h : SCore w B ns M sb T r) (k1 : ∀ (g : Nat) D t, (t = 3 ∨ t = 208) → w.heap[g]? = some (Obj.cells D t (0, 0)) → w'.heap[g]? = w.heap[g]?) (k2 : ∀ (g : Nat) (a : Int), w.cell? ⟨g, 0, none⟩ = some (eI a) → w'.heap[g]? = w.heap[g]?) : SCore w' B ns M sb T r := by
  refine ⟨fun i hi => ?_, fun i hi => ?_, h.ge, fun i hi => own_same (h.own i hi) (fun g hg => ?_), h.len, h.ap⟩
  · obtain ⟨c, f, hT, hup⟩ := h.one i hi
    obtain ⟨D, hD⟩ := h.typ i hi
    have e := k1 _ D _ (Or.inr rfl) hD
    exact ⟨(World.cell?_of_block (w := w) (a := ⟨sb i, 0, none⟩) e).trans c, (World.frozen?_of_block (w := w) (a := ⟨sb i, 0, none⟩) e).trans f, inT_same k2 hT, hup⟩
  · obtain ⟨D, hD⟩ := h.typ i hi
    exact ⟨D, (k1 _ D _ (Or.inr rfl) hD).trans hD⟩
  · obtain ⟨_, _, D, hD⟩ := own_block (h.own i hi) hg
    exact k1 g D _ (Or.inl rfl) hD
theorem SCore.below {w w' : World} {B : Nat} {ns M : Nat} {sb : Nat → Nat} {T : Nat → BT Int} {r : Nat → Value} (h : SCore w B ns M sb T r) (hb : Below w.heap.size w w') : SCore w' B ns M sb T r :=
  h.keep (fun g _ _ _ hD => hb.block g (Array.getElem?_eq_some_iff.1 hD).1) (fun g _ hc => hb.block g (World.block_lt_of_cell? _ _ hc))
theorem SCore.tch {w w' : World} {B : Nat} {ns M : Nat} {sb : Nat → Nat} {T : Nat → BT Int} {r : Nat → Value} (h : SCore w B ns M sb T r) {wb : Nat} {C : Array Value} {tv : Value} {Tt : TypeId} {B' sz n : Nat} {xs : List Value} (ht : Tch (fun k => k = wb ∨ some k = tv.ownBlock) w w') (hblk : w.heap[wb]? = some (Obj.cells C 91 (0, 0))) (h0 : ∃ a n c, C[0]? = some (.slice a n c)) (hrow : w.ownsRow B' Tt sz tv n xs) (hTt : Tt ≠ 3 ∧ Tt ≠ 208) (hx : tv.ownBlock = none ∨ ∃ v, xs[0]? = some v ∧ ∀ a : Int, v ≠ eI a) : SCore w' B ns M sb T r := by
  refine h.keep (fun g D t hst hD => ht.block g (Array.getElem?_eq_some_iff.1 hD).1 (fun q => ?_)) (fun g a hc => ht.block g (World.block_lt_of_cell? _ _ hc) (fun q => ?_))
  · rcases q with rfl | q
    · rw [hblk] at hD
      injection hD with hD
      injection hD with _ hD _
      subst hD
      rcases hst with q | q <;> exact absurd q (by decide)
    · obtain ⟨_, _, E, hE⟩ := own_block hrow q
      rw [hE] at hD
      injection hD with hD
      injection hD with _ hD _
      subst hD
      rcases hst with q | q
      · exact hTt.1 q
      · exact hTt.2 q
  · rcases q with rfl | q
    · obtain ⟨a', n', c', e⟩ := h0
      have := (cell_of hblk e).1
      rw [this] at hc
      cases hc
    · rcases hx with hx | ⟨v, hv, hne⟩
      · rw [hx] at q; cases q
      · rcases hrow.2 with ⟨e, _⟩ | ⟨g', cap, cur, e, _⟩
        · rw [e] at q; simp [Value.ownBlock] at q
        · rw [e] at q hrow
          simp [Value.ownBlock] at q
          subst q
          have := hrow.cells (g := g) rfl 0 v hv
          rw [show (⟨g, 0, none⟩ : Addr).add 0 = ⟨g, 0, none⟩ from by unfold Addr.add; split <;> simp_all] at this
          rw [this] at hc
          exact hne a (Option.some.inj hc)
/-- One set more, with nothing in it. -/
theorem SCore.more {w : World} {B : Nat} {ns M : Nat} {sb : Nat → Nat} {T : Nat → BT Int} {r : Nat → Value} (h : SCore w B ns M sb T r) {b : Nat} (hB : B ≤ b) (hb : w.heap[b]? = some (Obj.cells #[.pointer none] 208 (0, 0))) (hne : ∀ i, i < ns → sb i ≠ b) : SCore w B (ns + 1) M (fun i => if i = ns then b else sb i) (fun i => if i = ns then .nil else T i) (fun i => if i = ns then .slice none 0 0 else r i) := by
  have cs : ∀ i, i < ns + 1 → i ≠ ns → i < ns := fun i h1 h2 => by omega
  refine ⟨fun i hi => ?_, fun i hi => ?_, fun i hi => ?_, fun i hi => ?_, fun i hi => ?_, fun i j hi hj => ?_⟩
  · by_cases q : i = ns
    · simp only [if_pos q]
      obtain ⟨c, f⟩ := cell_of (j := 0) (u := .pointer none) hb rfl
      exact ⟨c, f, trivial, by simp [lst]⟩
    · simp only [if_neg q]
      exact h.one i (cs i hi q)
  · by_cases q : i = ns
    · simp only [if_pos q]
      exact ⟨_, hb⟩
    · simp only [if_neg q]
      exact h.typ i (cs i hi q)
  · by_cases q : i = ns
    · simp only [if_pos q]
      exact hB
    · simp only [if_neg q]
      exact h.ge i (cs i hi q)
  · by_cases q : i = ns
    · simp only [if_pos q]
      exact World.ownsRow_nil _ _ _ _
    · simp only [if_neg q]
      exact h.own i (cs i hi q)
  · by_cases q : i = ns
    · simp only [if_pos q]
      exact Nat.zero_le _
    · simp only [if_neg q]
      exact h.len i (cs i hi q)
  · by_cases q : i = ns
    · by_cases q' : j = ns
      · omega
      · simp only [if_pos q, if_neg q']
        exact fun e => absurd e.symm (hne j (cs j hj q'))
    · by_cases q' : j = ns
      · simp only [if_neg q, if_pos q']
        exact fun e => absurd e (hne i (cs i hi q))
      · simp only [if_neg q, if_neg q']
        exact h.ap i j (cs i hi q) (cs j hj q')
theorem rows_more {ns : Nat} {f : Nat → Value} {x : Value} : (List.range (ns + 1)).map (fun i => if i = ns then x else f i) = (List.range ns).map f ++ [x] := by
  rw [List.range_succ, List.map_append]
  congr 1
  · apply List.map_congr_left
    intro i hi
    have := List.mem_range.1 hi
    rw [if_neg (by omega)]
  · simp
end Go.Proofs.YtkncboinfcnklaaGreatDoor.WI
namespace Go.Proofs.YtkncboinfcnklaaGreatDoor.Str
open Go.RowKit Go.Deep Go.Proofs.YtkncboinfcnklaaGreatDoor.Mth

/-- The sets without their rows. -/
structure SCore (w : World) (B : Nat) (ns M : Nat) (sb : Nat → Nat) (T : Nat → BT ByteArray) (r : Nat → Value) : Prop where
  one : ∀ i, i < ns → SetAt w (sb i) (T i)
  typ : ∀ i, i < ns → ∃ D, w.heap[sb i]? = some (Obj.cells D 289 (0, 0))
  ge : ∀ i, i < ns → B ≤ sb i
  own : ∀ i, i < ns → w.ownsRow B 9 1 (r i) (lst (T i)).length ((lst (T i)).map eS)
  len : ∀ i, i < ns → (lst (T i)).length ≤ M
  ap : ∀ i j, i < ns → j < ns → sb i = sb j → i = j
theorem SSet.core {w : World} {B : Nat} {iv rv : Value} {ns M : Nat} {sb : Nat → Nat} {T : Nat → BT ByteArray} {r : Nat → Value} (h : SSet w B iv rv ns M sb T r) : SCore w B ns M sb T r := ⟨h.one, h.typ, h.ge, h.own, h.len, h.ap⟩
theorem SCore.keep {w w' : World} {B : Nat} {ns M : Nat} {sb : Nat → Nat} {T : Nat → BT ByteArray} {r : Nat → Value} (h : SCore w B ns M sb T r) (k1 : ∀ (g : Nat) D t, (t = 9 ∨ t = 289) → w.heap[g]? = some (Obj.cells D t (0, 0)) → w'.heap[g]? = w.heap[g]?) (k2 : ∀ (g : Nat) (a : ByteArray), w.cell? ⟨g, 0, none⟩ = some (eS a) → w'.heap[g]? = w.heap[g]?) : SCore w' B ns M sb T r := by
  refine ⟨fun i hi => ?_, fun i hi => ?_, h.ge, fun i hi => own_same (h.own i hi) (fun g hg => ?_), h.len, h.ap⟩
  · obtain ⟨c, f, hT, hup⟩ := h.one i hi
    obtain ⟨D, hD⟩ := h.typ i hi
    have e := k1 _ D _ (Or.inr rfl) hD
    exact ⟨(World.cell?_of_block (w := w) (a := ⟨sb i, 0, none⟩) e).trans c, (World.frozen?_of_block (w := w) (a := ⟨sb i, 0, none⟩) e).trans f, inT_same k2 hT, hup⟩
  · obtain ⟨D, hD⟩ := h.typ i hi
    exact ⟨D, (k1 _ D _ (Or.inr rfl) hD).trans hD⟩
  · obtain ⟨_, _, D, hD⟩ := own_block (h.own i hi) hg
    exact k1 g D _ (Or.inl rfl) hD
theorem SCore.below {w w' : World} {B : Nat} {ns M : Nat} {sb : Nat → Nat} {T : Nat → BT ByteArray} {r : Nat → Value} (h : SCore w B ns M sb T r) (hb : Below w.heap.size w w') : SCore w' B ns M sb T r :=
  h.keep (fun g _ _ _ hD => hb.block g (Array.getElem?_eq_some_iff.1 hD).1) (fun g _ hc => hb.block g (World.block_lt_of_cell? _ _ hc))
theorem SCore.tch {w w' : World} {B : Nat} {ns M : Nat} {sb : Nat → Nat} {T : Nat → BT ByteArray} {r : Nat → Value} (h : SCore w B ns M sb T r) {wb : Nat} {C : Array Value} {tv : Value} {Tt : TypeId} {B' sz n : Nat} {xs : List Value} (ht : Tch (fun k => k = wb ∨ some k = tv.ownBlock) w w') (hblk : w.heap[wb]? = some (Obj.cells C 91 (0, 0))) (h0 : ∃ a n c, C[0]? = some (.slice a n c)) (hrow : w.ownsRow B' Tt sz tv n xs) (hTt : Tt ≠ 9 ∧ Tt ≠ 289) (hx : tv.ownBlock = none ∨ ∃ v, xs[0]? = some v ∧ ∀ a : ByteArray, v ≠ eS a) : SCore w' B ns M sb T r := by
  refine h.keep (fun g D t hst hD => ht.block g (Array.getElem?_eq_some_iff.1 hD).1 (fun q => ?_)) (fun g a hc => ht.block g (World.block_lt_of_cell? _ _ hc) (fun q => ?_))
  · rcases q with rfl | q
    · rw [hblk] at hD
      injection hD with hD
      injection hD with _ hD _
      subst hD
      rcases hst with q | q <;> exact absurd q (by decide)
    · obtain ⟨_, _, E, hE⟩ := own_block hrow q
      rw [hE] at hD
      injection hD with hD
      injection hD with _ hD _
      subst hD
      rcases hst with q | q
      · exact hTt.1 q
      · exact hTt.2 q
  · rcases q with rfl | q
    · obtain ⟨a', n', c', e⟩ := h0
      have := (cell_of hblk e).1
      rw [this] at hc
      cases hc
    · rcases hx with hx | ⟨v, hv, hne⟩
      · rw [hx] at q; cases q
      · rcases hrow.2 with ⟨e, _⟩ | ⟨g', cap, cur, e, _⟩
        · rw [e] at q; simp [Value.ownBlock] at q
        · rw [e] at q hrow
          simp [Value.ownBlock] at q
          subst q
          have := hrow.cells (g := g) rfl 0 v hv
          rw [show (⟨g, 0, none⟩ : Addr).add 0 = ⟨g, 0, none⟩ from by unfold Addr.add; split <;> simp_all] at this
          rw [this] at hc
          exact hne a (Option.some.inj hc)
/-- One set more, with nothing in it. -/
theorem SCore.more {w : World} {B : Nat} {ns M : Nat} {sb : Nat → Nat} {T : Nat → BT ByteArray} {r : Nat → Value} (h : SCore w B ns M sb T r) {b : Nat} (hB : B ≤ b) (hb : w.heap[b]? = some (Obj.cells #[.pointer none] 289 (0, 0))) (hne : ∀ i, i < ns → sb i ≠ b) : SCore w B (ns + 1) M (fun i => if i = ns then b else sb i) (fun i => if i = ns then .nil else T i) (fun i => if i = ns then .slice none 0 0 else r i) := by
  have cs : ∀ i, i < ns + 1 → i ≠ ns → i < ns := fun i h1 h2 => by omega
  refine ⟨fun i hi => ?_, fun i hi => ?_, fun i hi => ?_, fun i hi => ?_, fun i hi => ?_, fun i j hi hj => ?_⟩
  · by_cases q : i = ns
    · simp only [if_pos q]
      obtain ⟨c, f⟩ := cell_of (j := 0) (u := .pointer none) hb rfl
      exact ⟨c, f, trivial, by simp [lst]⟩
    · simp only [if_neg q]
      exact h.one i (cs i hi q)
  · by_cases q : i = ns
    · simp only [if_pos q]
      exact ⟨_, hb⟩
    · simp only [if_neg q]
      exact h.typ i (cs i hi q)
  · by_cases q : i = ns
    · simp only [if_pos q]
      exact hB
    · simp only [if_neg q]
      exact h.ge i (cs i hi q)
  · by_cases q : i = ns
    · simp only [if_pos q]
      exact World.ownsRow_nil _ _ _ _
    · simp only [if_neg q]
      exact h.own i (cs i hi q)
  · by_cases q : i = ns
    · simp only [if_pos q]
      exact Nat.zero_le _
    · simp only [if_neg q]
      exact h.len i (cs i hi q)
  · by_cases q : i = ns
    · by_cases q' : j = ns
      · omega
      · simp only [if_pos q, if_neg q']
        exact fun e => absurd e.symm (hne j (cs j hj q'))
    · by_cases q' : j = ns
      · simp only [if_neg q, if_pos q']
        exact fun e => absurd e (hne i (cs i hi q))
      · simp only [if_neg q, if_neg q']
        exact h.ap i j (cs i hi q) (cs j hj q')
theorem rows_more {ns : Nat} {f : Nat → Value} {x : Value} : (List.range (ns + 1)).map (fun i => if i = ns then x else f i) = (List.range ns).map f ++ [x] := by
  rw [List.range_succ, List.map_append]
  congr 1
  · apply List.map_congr_left
    intro i hi
    have := List.mem_range.1 hi
    rw [if_neg (by omega)]
  · simp
end Go.Proofs.YtkncboinfcnklaaGreatDoor.Str
namespace Go.Proofs.YtkncboinfcnklaaGreatDoor
open Go.RowKit Go.Deep Go.Proofs.YtkncboinfcnklaaGreatDoor.Mth

/-- A row that a field of the law's world holds has one cell more. -/
theorem fld_app {W W5 : World} {B wb off : Nat} {C : Array Value} {PT : TypeId} {tv v5 x : Value} {n : Nat} {xs : List Value} {o : Obj} (hblk : W.heap[wb]? = some (Obj.cells C 91 (0, 0))) (hrow : W.ownsRow B PT 1 tv n xs) (hPT : PT ≠ 91) (h5 : W5.ownsRow B PT 1 v5 (n + 1) (xs ++ [x])) (hg : (W.alloc o).grownBy W5 tv.ownBlock) :
    (W5.setCell ⟨wb, off, none⟩ v5).heap[wb]? = some (Obj.cells (C.setIfInBounds off v5) 91 (0, 0)) ∧ (W5.setCell ⟨wb, off, none⟩ v5).ownsRow B PT 1 v5 (n + 1) (xs ++ [x]) ∧ Tch (fun k => k = wb ∨ some k = tv.ownBlock) W (W5.setCell ⟨wb, off, none⟩ v5) := by
  have hlt := (Array.getElem?_eq_some_iff.1 hblk).1
  have hne : some wb ≠ tv.ownBlock := by
    intro q
    obtain ⟨_, _, D, hD⟩ := own_block hrow q
    rw [hblk] at hD
    injection hD with hD
    injection hD with _ hD _
    exact hPT hD.symm
  have h2 : W5.heap[wb]? = some (Obj.cells C 91 (0, 0)) := by
    rw [hg.block wb (by simp; omega) hne, _root_.Go.heap_alloc_old W o hlt]
    exact hblk
  refine ⟨by simp [World.setCell, Array.getElem?_modify, h2], own_set_other h5 h2 (Ne.symm hPT), ⟨hg.os, hg.tape, hg.output, ?_, fun k hk hn => ?_⟩⟩
  · have := hg.size
    simp at this ⊢
    omega
  · rw [set_other (fun q => hn (Or.inl q)), hg.block k (by simp; omega) (fun q => hn (Or.inr q)), _root_.Go.heap_alloc_old W o hk]
end Go.Proofs.YtkncboinfcnklaaGreatDoor

namespace Go.Proofs.YtkncboinfcnklaaGreatDoor
open Go.RowKit Go.Deep Go.Proofs.YtkncboinfcnklaaGreatDoor.Mth

theorem Tryz.infoPI : (Tryz.prog.info? 269).map (fun i => (i.zero, i.size, i.bytes)) = some (some (.pointer none), 1, 8) := by kernel_rfl
theorem Tryz.infoPS : (Tryz.prog.info? 286).map (fun i => (i.zero, i.size, i.bytes)) = some (some (.pointer none), 1, 8) := by kernel_rfl
theorem Tryz.infoLI : (Tryz.prog.info? 149).map (fun i => (i.zero, i.size, i.bytes)) = some (some (.slice none 0 0), 1, 24) := by kernel_rfl
theorem Tryz.infoLS : (Tryz.prog.info? 58).map (fun i => (i.zero, i.size, i.bytes)) = some (some (.slice none 0 0), 1, 24) := by kernel_rfl

/-- A row of another type stands beside what was written. -/
theorem row_tch {w w' : World} {B B' wb : Nat} {C : Array Value} {tv v : Value} {T T' : TypeId} {sz n m : Nat} {xs ys : List Value} (ht : Tch (fun k => k = wb ∨ some k = tv.ownBlock) w w') (hblk : w.heap[wb]? = some (Obj.cells C 91 (0, 0))) (hrow : w.ownsRow B' T sz tv m ys) (h : w.ownsRow B T' 1 v n xs) (h1 : T' ≠ 91) (h2 : T' ≠ T) : w'.ownsRow B T' 1 v n xs := by
  refine own_same h fun g hg => ?_
  obtain ⟨_, hlt, D, hD⟩ := own_block h hg
  refine ht.block g hlt (fun q => ?_)
  rcases q with rfl | q
  · rw [hblk] at hD
    injection hD with hD
    injection hD with _ hD _
    exact h1 hD.symm
  · obtain ⟨_, _, E, hE⟩ := own_block hrow q
    rw [hE] at hD
    injection hD with hD
    injection hD with _ hD _
    exact h2 hD.symm
theorem blk_tch {w w' : World} {B' wb k : Nat} {C D : Array Value} {tv : Value} {T T' : TypeId} {sz m : Nat} {ys : List Value} (ht : Tch (fun k => k = wb ∨ some k = tv.ownBlock) w w') (hblk : w.heap[wb]? = some (Obj.cells C 91 (0, 0))) (hrow : w.ownsRow B' T sz tv m ys) (h : w.heap[k]? = some (Obj.cells D T' (0, 0))) (h1 : T' ≠ 91) (h2 : T' ≠ T) : w'.heap[k]? = some (Obj.cells D T' (0, 0)) := by
  refine (ht.block k (Array.getElem?_eq_some_iff.1 h).1 (fun q => ?_)).trans h
  rcases q with rfl | q
  · rw [hblk] at h
    injection h with h
    injection h with _ h _
    exact h1 h.symm
  · obtain ⟨_, _, E, hE⟩ := own_block hrow q
    rw [hE] at h
    injection h with h
    injection h with _ h _
    exact h2 h.symm
theorem not_own {W : World} {B wb : Nat} {C : Array Value} {PT : TypeId} {tv : Value} {n : Nat} {xs : List Value} (hblk : W.heap[wb]? = some (Obj.cells C 91 (0, 0))) (hrow : W.ownsRow B PT 1 tv n xs) (hPT : PT ≠ 91) : some wb ≠ tv.ownBlock := by
  intro q
  obtain ⟨_, _, D, hD⟩ := own_block hrow q
  rw [hblk] at hD
  injection hD with hD
  injection hD with _ hD _
  exact hPT hD.symm

theorem newB (w : World) (cs : Array Value) (t : TypeId) : (w.alloc (Obj.cells cs t)).heap[w.heap.size]? = some (Obj.cells cs t (0, 0)) := by
  show (w.heap.push _)[w.heap.size]? = _
  rw [Array.getElem?_push, if_pos rfl]

set_option maxRecDepth 100000 in
set_option maxHeartbeats 4000000 in
theorem sets_core (w : World) (B wb : Nat) (g0 g1 g2 g3 iv tv rv sv k8 k9 k10 k11 k12 k13 k14 : Value) (ns : Nat) (pi ps ri rs : List Value) (hblk : w.heap[wb]? = some (Obj.cells #[g0, g1, g2, g3, iv, tv, rv, sv, k8, k9, k10, k11, k12, k13, k14] 91 (0, 0))) (hI : w.ownsRow B 269 1 iv ns pi) (hS : w.ownsRow B 286 1 tv ns ps) (hRI : w.ownsRow B 149 1 rv ns ri) (hRS : w.ownsRow B 58 1 sv ns rs) (hB : B ≤ w.heap.size) (hns : ns ≤ 4000000) :
    Calls Tryz.prog 106 #[.pointer (some ⟨wb, 0, none⟩)] w fun e w' => e = .returned (.tuple #[]) ∧ ∃ iv' tv' rv' sv' bi bs w1 w2 w3 w4 w5, Below w.heap.size w w1 ∧ w.heap.size ≤ bi ∧ w1.heap[bi]? = some (Obj.cells #[.pointer none] 208 (0, 0)) ∧ Tch (fun k => k = wb ∨ some k = iv.ownBlock) w1 w2 ∧ Below w2.heap.size w2 w3 ∧ w2.heap.size ≤ bs ∧ w3.heap[bs]? = some (Obj.cells #[.pointer none] 289 (0, 0)) ∧ Tch (fun k => k = wb ∨ some k = tv.ownBlock) w3 w4 ∧ Tch (fun k => k = wb ∨ some k = rv.ownBlock) w4 w5 ∧ Tch (fun k => k = wb ∨ some k = sv.ownBlock) w5 w' ∧
      w2.heap[wb]? = some (Obj.cells #[g0, g1, g2, g3, iv', tv, rv, sv, k8, k9, k10, k11, k12, k13, k14] 91 (0, 0)) ∧ w4.heap[wb]? = some (Obj.cells #[g0, g1, g2, g3, iv', tv', rv, sv, k8, k9, k10, k11, k12, k13, k14] 91 (0, 0)) ∧ w5.heap[wb]? = some (Obj.cells #[g0, g1, g2, g3, iv', tv', rv', sv, k8, k9, k10, k11, k12, k13, k14] 91 (0, 0)) ∧ w'.heap[wb]? = some (Obj.cells #[g0, g1, g2, g3, iv', tv', rv', sv', k8, k9, k10, k11, k12, k13, k14] 91 (0, 0)) ∧
      w'.ownsRow B 269 1 iv' (ns + 1) (pi ++ [.pointer (some ⟨bi, 0, none⟩)]) ∧ w'.ownsRow B 286 1 tv' (ns + 1) (ps ++ [.pointer (some ⟨bs, 0, none⟩)]) ∧ w'.ownsRow B 149 1 rv' (ns + 1) (ri ++ [.slice none 0 0]) ∧ w'.ownsRow B 58 1 sv' (ns + 1) (rs ++ [.slice none 0 0]) := by
  obtain ⟨i0, hi0, hz0, hz1, hz2⟩ := info_parts Tryz.infoPI
  obtain ⟨j0, hj0, hy0, hy1, hy2⟩ := info_parts Tryz.infoPS
  obtain ⟨l0, hl0, hx0, hx1, hx2⟩ := info_parts Tryz.infoLI
  obtain ⟨m0, hm0, hw0, hw1, hw2⟩ := info_parts Tryz.infoLS
  obtain ⟨ia, ic, rfl, _, hic⟩ := own_slice hI
  obtain ⟨ta, tc, rfl, _, htc⟩ := own_slice hS
  obtain ⟨ra, rc, rfl, _, hrc⟩ := own_slice hRI
  obtain ⟨sa, sc, rfl, _, hsc⟩ := own_slice hRS
  have hwl : wb < w.heap.size := (Array.getElem?_eq_some_iff.1 hblk).1
  have c4 := (cell_of (j := 4) (u := .slice ia ns ic) hblk rfl).1
  have b1 := below_alloc w (Obj.cells #[.pointer none] 208)
  have HW1B := hide b1
  have HK1 := hide (newB w #[.pointer none] 208)
  have HBL1 := hide ((b1.block wb hwl).trans hblk)
  have HI1 := hide (hI.alloc (Obj.cells #[.pointer none] 208))
  have HS1 := hide (hS.alloc (Obj.cells #[.pointer none] 208))
  have HRI1 := hide (hRI.alloc (Obj.cells #[.pointer none] 208))
  have HRS1 := hide (hRS.alloc (Obj.cells #[.pointer none] 208))
  have hs1 : (w.alloc (Obj.cells #[.pointer none] 208)).heap.size = w.heap.size + 1 := by simp
  clear hI hS hRI hRS hblk b1
  go_enter Tryz.func106, Tryz.ntmps106
  go_wp2_with (first
    | (at_builtin; refine wpList_append_own _ rfl (.tmp 6) (.tmp 9) 79 rfl B 269 i0 (.pointer none) 1 8 Tryz.underlying79 hi0 hz0 hz1 hz2 rfl (by decide) _ _ _ rfl (HI1.out.alloc _) ⟨_, 0, none⟩ 1 1 [.pointer (some ⟨w.heap.size, 0, none⟩)] rfl rfl (cells_new2 _ _ (by simp) _ _ _ rfl) (by intro u hu; simp at hu; subst hu; rfl) (by unfold maxLen; omega) (by omega) (by simp; omega) ?_; intro v5 W5 o5 g5 _; obtain ⟨a5, c5, rfl, _, _⟩ := own_slice o5; have F1 := hide (fld_app (off := 4) HBL1.out HI1.out (by decide) o5 g5); obtain ⟨x4, f4⟩ := cell_of (j := 4) (u := .slice ia ns ic) (beside g5 HBL1.out (not_own HBL1.out HI1.out (by decide))) rfl; obtain ⟨y5, _⟩ := cell_of (j := 5) (u := .slice ta ns tc) F1.out.1 rfl; have hz5 : w.heap.size + 1 ≤ W5.heap.size := (by have q := F1.out.2.2.size; simp at q; omega); have HS2 := hide ((row_tch F1.out.2.2 HBL1.out HI1.out HS1.out (by decide) (by decide)).alloc (Obj.cells #[.pointer none] 289)); have HRI2 := hide ((row_tch F1.out.2.2 HBL1.out HI1.out HRI1.out (by decide) (by decide)).alloc (Obj.cells #[.pointer none] 289)); have HRS2 := hide ((row_tch F1.out.2.2 HBL1.out HI1.out HRS1.out (by decide) (by decide)).alloc (Obj.cells #[.pointer none] 289)); have HI2 := hide (F1.out.2.1.alloc (Obj.cells #[.pointer none] 289)); have HBL2 := hide (((below_alloc (W5.setCell ⟨wb, 4, none⟩ (.slice a5 (ns + 1) c5)) (Obj.cells #[.pointer none] 289)).block wb (Array.getElem?_eq_some_iff.1 F1.out.1).1).trans F1.out.1); clear o5 g5)
    | (at_builtin; refine wpList_append_own _ rfl (.tmp 17) (.tmp 20) 80 rfl B 286 j0 (.pointer none) 1 8 Tryz.underlying80 hj0 hy0 hy1 hy2 rfl (by decide) _ _ _ rfl (HS2.out.alloc _) ⟨_, 0, none⟩ 1 1 [.pointer (some ⟨W5.heap.size, 0, none⟩)] rfl rfl (cells_new2 _ _ (by simp) _ _ _ rfl) (by intro u hu; simp at hu; subst hu; rfl) (by unfold maxLen; omega) (by omega) (by simp; omega) ?_; intro v6 W6 o6 g6 _; obtain ⟨a6, c6, rfl, _, _⟩ := own_slice o6; have F2 := hide (fld_app (off := 5) HBL2.out HS2.out (by decide) o6 g6); obtain ⟨x5, f5⟩ := cell_of (j := 5) (u := .slice ta ns tc) (beside g6 HBL2.out (not_own HBL2.out HS2.out (by decide))) rfl; obtain ⟨y6, _⟩ := cell_of (j := 6) (u := .slice ra ns rc) F2.out.1 rfl; have hz6 : W5.heap.size + 1 ≤ W6.heap.size := (by have q := F2.out.2.2.size; simp at q; omega); have HRI3 := hide (row_tch F2.out.2.2 HBL2.out HS2.out HRI2.out (by decide) (by decide)); have HRS3 := hide (row_tch F2.out.2.2 HBL2.out HS2.out HRS2.out (by decide) (by decide)); have HI3 := hide (row_tch F2.out.2.2 HBL2.out HS2.out HI2.out (by decide) (by decide)); clear o6 g6)
    | (at_builtin; refine wpList_append_own _ rfl (.tmp 28) (.tmp 29) 22 rfl B 149 l0 (.slice none 0 0) 1 24 Tryz.underlying22 hl0 hx0 hx1 hx2 rfl (by decide) _ _ _ rfl (HRI3.out.alloc _) ⟨_, 0, none⟩ 1 1 [.slice none 0 0] rfl rfl (cells_new2 _ _ (by simp) _ _ _ rfl) (by intro u hu; simp at hu; subst hu; rfl) (by unfold maxLen; omega) (by omega) (by simp; omega) ?_; intro v7 W7 o7 g7 _; obtain ⟨a7, c7, rfl, _, _⟩ := own_slice o7; have F3 := hide (fld_app (off := 6) F2.out.1 HRI3.out (by decide) o7 g7); obtain ⟨x6, f6⟩ := cell_of (j := 6) (u := .slice ra ns rc) (beside g7 F2.out.1 (not_own F2.out.1 HRI3.out (by decide))) rfl; obtain ⟨y7, _⟩ := cell_of (j := 7) (u := .slice sa ns sc) F3.out.1 rfl; have hz7 : W6.heap.size ≤ W7.heap.size := (by have q := F3.out.2.2.size; simp at q; omega); have HRS4 := hide (row_tch F3.out.2.2 F2.out.1 HRI3.out HRS3.out (by decide) (by decide)); have HI4 := hide (row_tch F3.out.2.2 F2.out.1 HRI3.out HI3.out (by decide) (by decide)); have HS4 := hide (row_tch F3.out.2.2 F2.out.1 HRI3.out F2.out.2.1 (by decide) (by decide)); clear o7 g7)
    | (at_builtin; refine wpList_append_own _ rfl (.tmp 37) (.tmp 38) 23 rfl B 58 m0 (.slice none 0 0) 1 24 Tryz.underlying23 hm0 hw0 hw1 hw2 rfl (by decide) _ _ _ rfl (HRS4.out.alloc _) ⟨_, 0, none⟩ 1 1 [.slice none 0 0] rfl rfl (cells_new2 _ _ (by simp) _ _ _ rfl) (by intro u hu; simp at hu; subst hu; rfl) (by unfold maxLen; omega) (by omega) (by simp; omega) ?_; intro v8 W8 o8 g8 _; obtain ⟨a8, c8, rfl, _, _⟩ := own_slice o8; have F4 := hide (fld_app (off := 7) F3.out.1 HRS4.out (by decide) o8 g8); obtain ⟨x7, f7⟩ := cell_of (j := 7) (u := .slice sa ns sc) (beside g8 F3.out.1 (not_own F3.out.1 HRS4.out (by decide))) rfl; have HI5 := hide (row_tch F4.out.2.2 F3.out.1 HRS4.out HI4.out (by decide) (by decide)); have HS5 := hide (row_tch F4.out.2.2 F3.out.1 HRS4.out HS4.out (by decide) (by decide)); have HRI5 := hide (row_tch F4.out.2.2 F3.out.1 HRS4.out F3.out.2.1 (by decide) (by decide)); clear o8 g8))
  have HK2 : Hid (((W5.setCell ⟨wb, 4, none⟩ (.slice a5 (ns + 1) c5)).alloc (Obj.cells #[.pointer none] 289)).heap[W5.heap.size]? = some (Obj.cells #[.pointer none] 289 (0, 0))) := by
    have := newB (W5.setCell ⟨wb, 4, none⟩ (.slice a5 (ns + 1) c5)) #[.pointer none] 289
    have hsz : (W5.setCell ⟨wb, 4, none⟩ (.slice a5 (ns + 1) c5)).heap.size = W5.heap.size := by simp
    rw [hsz] at this
    exact this
  go_end0
  exact ⟨rfl, _, _, _, _, w.heap.size, W5.heap.size, _, _, _, _, _, HW1B.out, Nat.le_refl _, HK1.out, F1.out.2.2, below_alloc _ _, by simp, HK2.out, F2.out.2.2, F3.out.2.2, F4.out.2.2, F1.out.1, F2.out.1, F3.out.1, F4.out.1, HI5.out, HS5.out, HRI5.out, F4.out.2.1⟩
end Go.Proofs.YtkncboinfcnklaaGreatDoor

namespace Go.Proofs.YtkncboinfcnklaaGreatDoor
open Go.RowKit Go.Deep Go.Proofs.YtkncboinfcnklaaGreatDoor.Mth

/-- The first cell of a row of pointers, or of lists, is no item. -/
def Fst0 (tv : Value) (xs : List Value) : Prop := tv.ownBlock = none ∨ ∃ v, xs[0]? = some v ∧ ((∃ p, v = .pointer p) ∨ ∃ a n c, v = .slice a n c)
theorem fst_of {tv : Value} {n : Nat} {f : Nat → Value} (hn : n = 0 → tv = .slice none 0 0) (hf : ∀ i, i < n → (∃ p, f i = .pointer p) ∨ ∃ a n c, f i = .slice a n c) : Fst0 tv ((List.range n).map f) := by
  by_cases q : n = 0
  · left; rw [hn q]; rfl
  · right
    refine ⟨f 0, ?_, hf 0 (by omega)⟩
    rw [List.getElem?_map, List.getElem?_range (by omega)]
    rfl
theorem Fst0.int {tv : Value} {xs : List Value} (h : Fst0 tv xs) : tv.ownBlock = none ∨ ∃ v, xs[0]? = some v ∧ ∀ a : Int, v ≠ WI.eI a := by
  rcases h with h | ⟨v, hv, h⟩
  · exact Or.inl h
  · refine Or.inr ⟨v, hv, fun a e => ?_⟩
    rcases h with ⟨p, rfl⟩ | ⟨a', n, c, rfl⟩ <;> cases e
theorem Fst0.str {tv : Value} {xs : List Value} (h : Fst0 tv xs) : tv.ownBlock = none ∨ ∃ v, xs[0]? = some v ∧ ∀ a : ByteArray, v ≠ Str.eS a := by
  rcases h with h | ⟨v, hv, h⟩
  · exact Or.inl h
  · refine Or.inr ⟨v, hv, fun a e => ?_⟩
    rcases h with ⟨p, rfl⟩ | ⟨a', n, c, rfl⟩ <;> cases e

theorem sets_any (w : World) (B wb : Nat) (g0 g1 g2 g3 iv tv rv sv k8 k9 k10 k11 k12 k13 k14 : Value) (ns M : Nat) (sbI : Nat → Nat) (TI : Nat → BT Int) (rI : Nat → Value) (sbS : Nat → Nat) (TS : Nat → BT ByteArray) (rS : Nat → Value) (hblk : w.heap[wb]? = some (Obj.cells #[g0, g1, g2, g3, iv, tv, rv, sv, k8, k9, k10, k11, k12, k13, k14] 91 (0, 0))) (h0 : ∃ a n c, g0 = .slice a n c) (hI : WI.SSet w B iv rv ns M sbI TI rI) (hS : Str.SSet w B tv sv ns M sbS TS rS) (hB : B ≤ w.heap.size) (hns : ns ≤ 4000000) :
    Calls Tryz.prog 106 #[.pointer (some ⟨wb, 0, none⟩)] w fun e w' => e = .returned (.tuple #[]) ∧ ∃ iv' tv' rv' sv' sbI' TI' rI' sbS' TS' rS', w'.heap[wb]? = some (Obj.cells #[g0, g1, g2, g3, iv', tv', rv', sv', k8, k9, k10, k11, k12, k13, k14] 91 (0, 0)) ∧ WI.SSet w' B iv' rv' (ns + 1) M sbI' TI' rI' ∧ Str.SSet w' B tv' sv' (ns + 1) M sbS' TS' rS' ∧ Tch (fun k => k = wb ∨ some k = iv.ownBlock ∨ some k = tv.ownBlock ∨ some k = rv.ownBlock ∨ some k = sv.ownBlock) w w' := by
  have F1 : Fst0 iv ((List.range ns).map fun i => .pointer (some ⟨sbI i, 0, none⟩)) := fst_of (fun q => (hI.nil q).1) (fun i _ => Or.inl ⟨_, rfl⟩)
  have F2 : Fst0 tv ((List.range ns).map fun i => .pointer (some ⟨sbS i, 0, none⟩)) := fst_of (fun q => (hS.nil q).1) (fun i _ => Or.inl ⟨_, rfl⟩)
  have F3 : Fst0 rv ((List.range ns).map rI) := fst_of (fun q => (hI.nil q).2) (fun i hi => by obtain ⟨a, c, e, _, _⟩ := own_slice (hI.own i hi); exact Or.inr ⟨_, _, _, e⟩)
  have F4 : Fst0 sv ((List.range ns).map rS) := fst_of (fun q => (hS.nil q).2) (fun i hi => by obtain ⟨a, c, e, _, _⟩ := own_slice (hS.own i hi); exact Or.inr ⟨_, _, _, e⟩)
  have hwl : wb < w.heap.size := (Array.getElem?_eq_some_iff.1 hblk).1
  obtain ⟨z0, z1, z2, rfl⟩ := h0
  refine (sets_core w B wb _ g1 g2 g3 iv tv rv sv k8 k9 k10 k11 k12 k13 k14 ns _ _ _ _ hblk hI.row hS.row hI.ref hS.ref hB hns).mono ?_
  rintro e w' ⟨rfl, iv', tv', rv', sv', bi, bs, w1, w2, w3, w4, w5, b1, hbi, k1, t1, b3, hbs, k2, t2, t3, t4, d2, d4, d5, d6, r1, r2, r3, r4⟩
  have hs1 := b1.size
  have hs2 := t1.size
  have hs3 := b3.size
  have hs4 := t2.size
  have hs5 := t3.size
  have hs6 := t4.size
  have e1 := (b1.block wb hwl).trans hblk
  have e3 := (b3.block wb (by omega)).trans d2
  have i1 := hI.row
  have i1' : w1.ownsRow B 269 1 iv ns _ := own_same hI.row (fun g hg => b1.block g (own_block hI.row hg).2.1)
  have s1' : w1.ownsRow B 286 1 tv ns _ := own_same hS.row (fun g hg => b1.block g (own_block hS.row hg).2.1)
  have s2 := row_tch t1 e1 i1' s1' (by decide) (by decide)
  have s3 : w3.ownsRow B 286 1 tv ns _ := own_same s2 (fun g hg => b3.block g (own_block s2 hg).2.1)
  have p1 : w1.ownsRow B 149 1 rv ns _ := own_same hI.ref (fun g hg => b1.block g (own_block hI.ref hg).2.1)
  have p2 := row_tch t1 e1 i1' p1 (by decide) (by decide)
  have p3 : w3.ownsRow B 149 1 rv ns _ := own_same p2 (fun g hg => b3.block g (own_block p2 hg).2.1)
  have p4 := row_tch t2 e3 s3 p3 (by decide) (by decide)
  have q1 : w1.ownsRow B 58 1 sv ns _ := own_same hS.ref (fun g hg => b1.block g (own_block hS.ref hg).2.1)
  have q2 := row_tch t1 e1 i1' q1 (by decide) (by decide)
  have q3 : w3.ownsRow B 58 1 sv ns _ := own_same q2 (fun g hg => b3.block g (own_block q2 hg).2.1)
  have q4 := row_tch t2 e3 s3 q3 (by decide) (by decide)
  have q5 := row_tch t3 d4 p4 q4 (by decide) (by decide)
  have cI := ((((((hI.core.below b1).tch t1 e1 ⟨_, _, _, rfl⟩ i1' (by decide) F1.int).below b3).tch t2 e3 ⟨_, _, _, rfl⟩ s3 (by decide) F2.int).tch t3 d4 ⟨_, _, _, rfl⟩ p4 (by decide) F3.int).tch t4 d5 ⟨_, _, _, rfl⟩ q5 (by decide) F4.int)
  have cS := ((((((hS.core.below b1).tch t1 e1 ⟨_, _, _, rfl⟩ i1' (by decide) F1.str).below b3).tch t2 e3 ⟨_, _, _, rfl⟩ s3 (by decide) F2.str).tch t3 d4 ⟨_, _, _, rfl⟩ p4 (by decide) F3.str).tch t4 d5 ⟨_, _, _, rfl⟩ q5 (by decide) F4.str)
  have kI1 := blk_tch t1 e1 i1' k1 (by decide) (by decide)
  have kI3 := (b3.block bi (Array.getElem?_eq_some_iff.1 kI1).1).trans kI1
  have kI := blk_tch t4 d5 q5 (blk_tch t3 d4 p4 (blk_tch t2 e3 s3 kI3 (by decide) (by decide)) (by decide) (by decide)) (by decide) (by decide)
  have kS := blk_tch t4 d5 q5 (blk_tch t3 d4 p4 (blk_tch t2 e3 s3 k2 (by decide) (by decide)) (by decide) (by decide)) (by decide) (by decide)
  have nI : ∀ i, i < ns → sbI i ≠ bi := fun i hi c => by
    obtain ⟨D, hD⟩ := hI.typ i hi
    have := (Array.getElem?_eq_some_iff.1 hD).1
    omega
  have nS : ∀ i, i < ns → sbS i ≠ bs := fun i hi c => by
    obtain ⟨D, hD⟩ := hS.typ i hi
    have := (Array.getElem?_eq_some_iff.1 hD).1
    omega
  have mI := cI.more (b := bi) (by omega) kI nI
  have mS := cS.more (b := bs) (by omega) kS nS
  refine ⟨rfl, iv', tv', rv', sv', _, _, _, _, _, _, d6, ⟨?_, ?_, mI.one, mI.typ, mI.ge, mI.own, mI.len, mI.ap, fun c => by omega⟩, ⟨?_, ?_, mS.one, mS.typ, mS.ge, mS.own, mS.len, mS.ap, fun c => by omega⟩, ?_⟩
  · have e : (fun i => (Value.pointer (some ⟨if i = ns then bi else sbI i, 0, none⟩))) = fun i => if i = ns then (.pointer (some ⟨bi, 0, none⟩)) else (.pointer (some ⟨sbI i, 0, none⟩)) := by funext i; split <;> rfl
    rw [e, WI.rows_more]
    exact r1
  · rw [WI.rows_more]
    exact r3
  · have e : (fun i => (Value.pointer (some ⟨if i = ns then bs else sbS i, 0, none⟩))) = fun i => if i = ns then (.pointer (some ⟨bs, 0, none⟩)) else (.pointer (some ⟨sbS i, 0, none⟩)) := by funext i; split <;> rfl
    rw [e, WI.rows_more]
    exact r2
  · rw [WI.rows_more]
    exact r4
  · refine ((((((tch_below b1).trans (t1.mono ?_) (fun _ _ q => q)).trans (tch_below b3) (fun _ _ q => q)).trans (t2.mono ?_) (fun _ _ q => q)).trans (t3.mono ?_) (fun _ _ q => q)).trans (t4.mono ?_) (fun _ _ q => q))
    · rintro k _ (q | q)
      · exact Or.inl q
      · exact Or.inr (Or.inl q)
    · rintro k _ (q | q)
      · exact Or.inl q
      · exact Or.inr (Or.inr (Or.inl q))
    · rintro k _ (q | q)
      · exact Or.inl q
      · exact Or.inr (Or.inr (Or.inr (Or.inl q)))
    · rintro k _ (q | q)
      · exact Or.inl q
      · exact Or.inr (Or.inr (Or.inr (Or.inr q)))
end Go.Proofs.YtkncboinfcnklaaGreatDoor

namespace Go.Proofs.YtkncboinfcnklaaGreatDoor.WI
open Go.RowKit Go.Deep Go.Proofs.YtkncboinfcnklaaGreatDoor.Mth

theorem own_first {w : World} {B : Nat} {e : TypeId} {sz : Nat} {a : Option Addr} {n c : Nat} {xs : List Value} (h : w.ownsRow B e sz (.slice a n c) n xs) (h0 : 0 < n) : ∃ g, a = some ⟨g, 0, none⟩ := by
  rcases h.2 with ⟨_, q2⟩ | ⟨g, cap, cur, q, _⟩
  · omega
  · injection q with q; exact ⟨g, q⟩
theorem row_cell {w : World} {B : Nat} {e : TypeId} {g n c : Nat} {f : Nat → Value} (h : w.ownsRow B e 1 (.slice (some ⟨g, 0, none⟩) n c) n ((List.range n).map f)) {i : Nat} (hi : i < n) : w.cell? ⟨g, i, none⟩ = some (f i) := by
  have := h.cells (g := g) rfl i (f i) (by rw [List.getElem?_map, List.getElem?_range hi]; rfl)
  rwa [show (⟨g, 0, none⟩ : Addr).add i = ⟨g, i, none⟩ from by unfold Addr.add; split <;> simp_all] at this

set_option maxRecDepth 100000 in
set_option maxHeartbeats 4000000 in
theorem has_step (w : World) (B wb : Nat) (g0 g1 g2 g3 q5 q7 k8 k9 k10 k11 k12 k13 k14 iv rv : Value) (ns M : Nat) (sb : Nat → Nat) (Tr : Nat → BT Int) (rr : Nat → Value) (A Bv Cv : Int) (S T : ByteArray) (hblk : w.heap[wb]? = some (Obj.cells #[g0, g1, g2, g3, iv, q5, rv, q7, k8, k9, k10, k11, k12, k13, k14] 91 (0, 0))) (hI : SSet w B iv rv ns M sb Tr rr) (hns : 0 < ns) (hn2 : ns ≤ 4194304) (hM : M ≤ 4194304) (hA0 : -9223372036854775808 ≤ A) (hA1 : A < 9223372036854775808) (hC0 : -9223372036854775808 ≤ Cv) (hC1 : Cv < 9223372036854775808) :
    Calls Tryz.prog 107 #[.pointer (some ⟨wb, 0, none⟩), .agg #[.int .i64 5, .int .i64 A, .int .i64 Bv, .int .i64 Cv, .string S, .string T]] w fun e w' => e = .returned (.bool true) ∧ Below w.heap.size w w' := by
  have hwl : wb < w.heap.size := (Array.getElem?_eq_some_iff.1 hblk).1
  have HO := hide (opCells w 5 A Bv Cv S T)
  have HB1 := hide (below_alloc w (Obj.cells #[.int .i64 5, .int .i64 A, .int .i64 Bv, .int .i64 Cv, .string S, .string T] 94))
  have hlt1 : w.heap.size < (w.alloc (Obj.cells #[.int .i64 5, .int .i64 A, .int .i64 Bv, .int .i64 Cv, .string S, .string T] 94)).heap.size := by simp
  obtain ⟨ia, ic, rfl, hic, hicm⟩ := own_slice hI.row
  obtain ⟨ra, rc, rfl, hrc, hrcm⟩ := own_slice hI.ref
  unfold maxLen at hicm hrcm
  obtain ⟨r, hr0, hr1, hpk⟩ := pick_fix A (ns : Int) hA0 hA1 (by omega) (by omega)
  obtain ⟨i, rfl⟩ := Int.eq_ofNat_of_zero_le hr0
  have hi : i < ns := by omega
  have HII := hide hI
  have HBLK := hide hblk
  have HPK := hide hpk
  have cw1 := (cell_of (j := 4) (u := .slice ia ns ic) ((HB1.out.block wb hwl).trans hblk) rfl).1
  have cA := (cell_of (j := 1) (u := .int .i64 A) HO.out rfl).1
  clear hI hblk hpk
  go_enter Tryz.func107, Tryz.ntmps107
  go_wp2_with fail
  generalize w.alloc (Obj.cells #[.int .i64 5, .int .i64 A, .int .i64 Bv, .int .i64 Cv, .string S, .string T] 94) = w1 at *
  have d1 := cell_regrown cw1
  have d2 := cell_regrown cA
  have CP := hide (fun d os => Calls.regrown_of (w := w1) (d := d) (os := os) ((HPK.out (Sort.grow (redrawn w1 d) os)).mono fun e w' q => ⟨q.1, by rw [q.2]; exact Below.refl _ _⟩))
  clear cw1 cA
  refine wp_region_quiet_below (by kernel_rfl) (by kernel_rfl) ?_
  repeat (go_big_quiet_step (first | (go_at_call 15; exact CP.out _ _)))
  refine wpQuiet_nil ?_
  intro _ hw'
  obtain ⟨⟨dq, osq⟩, hw''⟩ := hw'
  subst hw''
  have HBQ := hide (below_regrown w1 dq osq)
  clear d1 d2 CP
  generalize Sort.grow (redrawn w1 dq) osq = w2 at *
  have hs1 := HB1.out.size
  have hs2 := HBQ.out.size
  have HB02 : Hid (Below w.heap.size w w2) := HB1.out.trans (HBQ.out.mono (by omega))
  have HI2 := hide (HII.out.below HB02.out)
  have HBL2 := hide ((HB02.out.block wb hwl).trans HBLK.out)
  have HO2 := hide ((HBQ.out.block w.heap.size hlt1).trans HO.out)
  obtain ⟨c4, _⟩ := cell_of (j := 4) (u := .slice ia ns ic) HBL2.out rfl
  obtain ⟨c6, _⟩ := cell_of (j := 6) (u := .slice ra ns rc) HBL2.out rfl
  obtain ⟨o0, _⟩ := cell_of (j := 0) (u := .int .i64 5) HO2.out rfl
  obtain ⟨o2, _⟩ := cell_of (j := 2) (u := .int .i64 Bv) HO2.out rfl
  obtain ⟨o3, _⟩ := cell_of (j := 3) (u := .int .i64 Cv) HO2.out rfl
  obtain ⟨o4, _⟩ := cell_of (j := 4) (u := .string S) HO2.out rfl
  obtain ⟨o5, _⟩ := cell_of (j := 5) (u := .string T) HO2.out rfl
  obtain ⟨gi, rfl⟩ := own_first HI2.out.row (by omega)
  obtain ⟨gr, rfl⟩ := own_first HI2.out.ref (by omega)
  have p1 := row_cell HI2.out.row hi
  have p2 := row_cell HI2.out.ref hi
  have HSA := hide (HI2.out.one i hi)
  have HOW := hide (HI2.out.own i hi)
  have hlen := HI2.out.len i hi
  obtain ⟨la, lc, hrv, _, hlcm⟩ := own_slice HOW.out
  rw [hrv] at p2 HOW
  have HRD := hide (rd_own HOW.out)
  generalize hsb : sb i = s at *
  generalize hTT : Tr i = TT at *
  have HSB := hide hsb
  have HTT := hide hTT
  have HRV := hide hrv
  clear hsb hTT hrv
  have CH := hide (has_any s TT Bv w2 HSA.out)
  have CI := hide (in_any Bv HRD.out)
  have CL := hide (len_any s TT w2 HSA.out)
  generalize hdx : decide (Bv ∈ lst TT) = dx at *
  clear hdx
  by_cases hc0 : Cv < 0
  · have CA := hide (at_below s Cv w2 hc0)
    have z1 : decide (0 ≤ Cv) = false := by simp; omega
    generalize (lst TT).length = n at *
    go_wp2_with fail
    refine CH.out.mono ?_
    rintro e w3 ⟨rfl, rfl⟩
    go_wp2_with fail
    refine CI.out.mono ?_
    rintro e w4 ⟨rfl, rfl⟩
    go_wp2_with fail
    refine CL.out.mono ?_
    rintro e w5 ⟨rfl, rfl⟩
    go_wp2_with fail
    refine CA.out.mono ?_
    rintro e w6 ⟨rfl, rfl⟩
    clear CH CI CL CA
    cases dx
    all_goals (
      go_wp2
      go_ret
      exact ⟨by simp, HB02.out⟩)
  · obtain ⟨j, rfl⟩ := Int.eq_ofNat_of_zero_le (Int.not_lt.1 hc0)
    by_cases hc1 : j < (lst TT).length
    · have CA := hide (at_in s TT j w2 HSA.out hc1 (by omega))
      obtain ⟨b, o, hla, _, cell⟩ := rd_at HRD.out j hc1
      subst hla
      generalize (lst TT).getD j 0 = y at *
      generalize (lst TT).length = n at *
      go_wp2_with fail
      refine CH.out.mono ?_
      rintro e w3 ⟨rfl, rfl⟩
      go_wp2_with fail
      refine CI.out.mono ?_
      rintro e w4 ⟨rfl, rfl⟩
      go_wp2_with fail
      refine CL.out.mono ?_
      rintro e w5 ⟨rfl, rfl⟩
      go_wp2_with fail
      refine CA.out.mono ?_
      rintro e w6 ⟨rfl, rfl⟩
      clear CH CI CL CA
      cases dx
      all_goals (
        go_wp2
        go_ret
        exact ⟨by simp, HB02.out⟩)
    · have CA := hide (at_above s TT j w2 HSA.out (by omega) (by omega))
      generalize (lst TT).length = n at *
      go_wp2_with fail
      refine CH.out.mono ?_
      rintro e w3 ⟨rfl, rfl⟩
      go_wp2_with fail
      refine CI.out.mono ?_
      rintro e w4 ⟨rfl, rfl⟩
      go_wp2_with fail
      refine CL.out.mono ?_
      rintro e w5 ⟨rfl, rfl⟩
      go_wp2_with fail
      refine CA.out.mono ?_
      rintro e w6 ⟨rfl, rfl⟩
      clear CH CI CL CA
      cases dx
      all_goals (
        go_wp2
        go_ret
        exact ⟨by simp, HB02.out⟩)
end Go.Proofs.YtkncboinfcnklaaGreatDoor.WI

namespace Go.Proofs.YtkncboinfcnklaaGreatDoor.Str
open Go.RowKit Go.Deep Go.Proofs.YtkncboinfcnklaaGreatDoor.Mth

theorem own_first {w : World} {B : Nat} {e : TypeId} {sz : Nat} {a : Option Addr} {n c : Nat} {xs : List Value} (h : w.ownsRow B e sz (.slice a n c) n xs) (h0 : 0 < n) : ∃ g, a = some ⟨g, 0, none⟩ := by
  rcases h.2 with ⟨_, q2⟩ | ⟨g, cap, cur, q, _⟩
  · omega
  · injection q with q; exact ⟨g, q⟩
theorem row_cell {w : World} {B : Nat} {e : TypeId} {g n c : Nat} {f : Nat → Value} (h : w.ownsRow B e 1 (.slice (some ⟨g, 0, none⟩) n c) n ((List.range n).map f)) {i : Nat} (hi : i < n) : w.cell? ⟨g, i, none⟩ = some (f i) := by
  have := h.cells (g := g) rfl i (f i) (by rw [List.getElem?_map, List.getElem?_range hi]; rfl)
  rwa [show (⟨g, 0, none⟩ : Addr).add i = ⟨g, i, none⟩ from by unfold Addr.add; split <;> simp_all] at this

set_option maxRecDepth 100000 in
set_option maxHeartbeats 4000000 in
theorem has_step (w : World) (B wb : Nat) (g0 g1 g2 g3 q4 q6 k8 k9 k10 k11 k12 k13 k14 iv rv : Value) (ns M : Nat) (sb : Nat → Nat) (Tr : Nat → BT ByteArray) (rr : Nat → Value) (A Bv Cv : Int) (S T : ByteArray) (hblk : w.heap[wb]? = some (Obj.cells #[g0, g1, g2, g3, q4, iv, q6, rv, k8, k9, k10, k11, k12, k13, k14] 91 (0, 0))) (hI : SSet w B iv rv ns M sb Tr rr) (hns : 0 < ns) (hn2 : ns ≤ 4194304) (hM : M ≤ 4194304) (hA0 : -9223372036854775808 ≤ A) (hA1 : A < 9223372036854775808) (hC0 : -9223372036854775808 ≤ Cv) (hC1 : Cv < 9223372036854775808) :
    Calls Tryz.prog 108 #[.pointer (some ⟨wb, 0, none⟩), .agg #[.int .i64 5, .int .i64 A, .int .i64 Bv, .int .i64 Cv, .string S, .string T]] w fun e w' => e = .returned (.bool true) ∧ Below w.heap.size w w' := by
  have hwl : wb < w.heap.size := (Array.getElem?_eq_some_iff.1 hblk).1
  have HO := hide (opCells w 5 A Bv Cv S T)
  have HB1 := hide (below_alloc w (Obj.cells #[.int .i64 5, .int .i64 A, .int .i64 Bv, .int .i64 Cv, .string S, .string T] 94))
  have hlt1 : w.heap.size < (w.alloc (Obj.cells #[.int .i64 5, .int .i64 A, .int .i64 Bv, .int .i64 Cv, .string S, .string T] 94)).heap.size := by simp
  obtain ⟨ia, ic, rfl, hic, hicm⟩ := own_slice hI.row
  obtain ⟨ra, rc, rfl, hrc, hrcm⟩ := own_slice hI.ref
  unfold maxLen at hicm hrcm
  obtain ⟨r, hr0, hr1, hpk⟩ := pick_fix A (ns : Int) hA0 hA1 (by omega) (by omega)
  obtain ⟨i, rfl⟩ := Int.eq_ofNat_of_zero_le hr0
  have hi : i < ns := by omega
  have HII := hide hI
  have HBLK := hide hblk
  have HPK := hide hpk
  have cw1 := (cell_of (j := 5) (u := .slice ia ns ic) ((HB1.out.block wb hwl).trans hblk) rfl).1
  have cA := (cell_of (j := 1) (u := .int .i64 A) HO.out rfl).1
  clear hI hblk hpk
  go_enter Tryz.func108, Tryz.ntmps108
  go_wp2_with fail
  generalize w.alloc (Obj.cells #[.int .i64 5, .int .i64 A, .int .i64 Bv, .int .i64 Cv, .string S, .string T] 94) = w1 at *
  have d1 := cell_regrown cw1
  have d2 := cell_regrown cA
  have CP := hide (fun d os => Calls.regrown_of (w := w1) (d := d) (os := os) ((HPK.out (Sort.grow (redrawn w1 d) os)).mono fun e w' q => ⟨q.1, by rw [q.2]; exact Below.refl _ _⟩))
  clear cw1 cA
  refine wp_region_quiet_below (by kernel_rfl) (by kernel_rfl) ?_
  repeat (go_big_quiet_step (first | (go_at_call 15; exact CP.out _ _)))
  refine wpQuiet_nil ?_
  intro _ hw'
  obtain ⟨⟨dq, osq⟩, hw''⟩ := hw'
  subst hw''
  have HBQ := hide (below_regrown w1 dq osq)
  clear d1 d2 CP
  generalize Sort.grow (redrawn w1 dq) osq = w2 at *
  have hs1 := HB1.out.size
  have hs2 := HBQ.out.size
  have HB02 : Hid (Below w.heap.size w w2) := HB1.out.trans (HBQ.out.mono (by omega))
  have HI2 := hide (HII.out.below HB02.out)
  have HBL2 := hide ((HB02.out.block wb hwl).trans HBLK.out)
  have HO2 := hide ((HBQ.out.block w.heap.size hlt1).trans HO.out)
  obtain ⟨c4, _⟩ := cell_of (j := 5) (u := .slice ia ns ic) HBL2.out rfl
  obtain ⟨c6, _⟩ := cell_of (j := 7) (u := .slice ra ns rc) HBL2.out rfl
  obtain ⟨o0, _⟩ := cell_of (j := 0) (u := .int .i64 5) HO2.out rfl
  obtain ⟨o2, _⟩ := cell_of (j := 2) (u := .int .i64 Bv) HO2.out rfl
  obtain ⟨o3, _⟩ := cell_of (j := 3) (u := .int .i64 Cv) HO2.out rfl
  obtain ⟨o4, _⟩ := cell_of (j := 4) (u := .string S) HO2.out rfl
  obtain ⟨o5, _⟩ := cell_of (j := 5) (u := .string T) HO2.out rfl
  obtain ⟨gi, rfl⟩ := own_first HI2.out.row (by omega)
  obtain ⟨gr, rfl⟩ := own_first HI2.out.ref (by omega)
  have p1 := row_cell HI2.out.row hi
  have p2 := row_cell HI2.out.ref hi
  have HSA := hide (HI2.out.one i hi)
  have HOW := hide (HI2.out.own i hi)
  have hlen := HI2.out.len i hi
  obtain ⟨la, lc, hrv, _, hlcm⟩ := own_slice HOW.out
  rw [hrv] at p2 HOW
  have HRD := hide (rd_own HOW.out)
  generalize hsb : sb i = s at *
  generalize hTT : Tr i = TT at *
  have HSB := hide hsb
  have HTT := hide hTT
  have HRV := hide hrv
  clear hsb hTT hrv
  have CH := hide (has_any s TT S w2 HSA.out)
  have CI := hide (in_any S HRD.out)
  have CL := hide (len_any s TT w2 HSA.out)
  generalize hdx : memD S (lst TT) = dx at *
  clear hdx
  by_cases hc0 : Cv < 0
  · have CA := hide (at_below s Cv w2 hc0)
    have z1 : decide (0 ≤ Cv) = false := by simp; omega
    generalize (lst TT).length = n at *
    go_wp2_with fail
    refine CH.out.mono ?_
    rintro e w3 ⟨rfl, rfl⟩
    go_wp2_with fail
    refine CI.out.mono ?_
    rintro e w4 ⟨rfl, rfl⟩
    go_wp2_with fail
    refine CL.out.mono ?_
    rintro e w5 ⟨rfl, rfl⟩
    go_wp2_with fail
    refine CA.out.mono ?_
    rintro e w6 ⟨rfl, rfl⟩
    clear CH CI CL CA
    cases dx
    all_goals (
      go_wp2
      go_ret
      exact ⟨by simp, HB02.out⟩)
  · obtain ⟨j, rfl⟩ := Int.eq_ofNat_of_zero_le (Int.not_lt.1 hc0)
    by_cases hc1 : j < (lst TT).length
    · have CA := hide (at_in s TT j w2 HSA.out hc1 (by omega))
      obtain ⟨b, o, hla, _, cell⟩ := rd_at HRD.out j hc1
      subst hla
      generalize (lst TT).getD j ByteArray.empty = y at *
      generalize (lst TT).length = n at *
      go_wp2_with fail
      refine CH.out.mono ?_
      rintro e w3 ⟨rfl, rfl⟩
      go_wp2_with fail
      refine CI.out.mono ?_
      rintro e w4 ⟨rfl, rfl⟩
      go_wp2_with fail
      refine CL.out.mono ?_
      rintro e w5 ⟨rfl, rfl⟩
      go_wp2_with fail
      refine CA.out.mono ?_
      rintro e w6 ⟨rfl, rfl⟩
      clear CH CI CL CA
      cases dx
      all_goals (
        go_wp2
        go_ret
        exact ⟨by simp, HB02.out⟩)
    · have CA := hide (at_above s TT j w2 HSA.out (by omega) (by omega))
      generalize (lst TT).length = n at *
      go_wp2_with fail
      refine CH.out.mono ?_
      rintro e w3 ⟨rfl, rfl⟩
      go_wp2_with fail
      refine CI.out.mono ?_
      rintro e w4 ⟨rfl, rfl⟩
      go_wp2_with fail
      refine CL.out.mono ?_
      rintro e w5 ⟨rfl, rfl⟩
      go_wp2_with fail
      refine CA.out.mono ?_
      rintro e w6 ⟨rfl, rfl⟩
      clear CH CI CL CA
      cases dx
      all_goals (
        go_wp2
        go_ret
        exact ⟨by simp, HB02.out⟩)
end Go.Proofs.YtkncboinfcnklaaGreatDoor.Str

namespace Go.Proofs.YtkncboinfcnklaaGreatDoor.WI
open Go.RowKit Go.Deep Go.Proofs.YtkncboinfcnklaaGreatDoor.Mth

theorem range_set {n i : Nat} {f : Nat → Value} {x : Value} (hi : i < n) : ((List.range n).map f).set i x = (List.range n).map (fun j => if j = i then x else f j) := by
  apply List.ext_getElem?
  intro k
  rw [List.getElem?_set]
  by_cases q : i = k
  · subst q
    simp [hi]
  · rw [if_neg q]
    simp only [List.getElem?_map]
    by_cases hk : k < n
    · rw [List.getElem?_range hk]
      simp [show ¬ k = i from fun c => q c.symm]
    · rw [List.getElem?_eq_none (by simpa using Nat.not_lt.1 hk)]
      rfl

theorem SSet.added {w w3 w4 : World} {B : Nat} {iv : Value} {ns M M' : Nat} {sb : Nat → Nat} {T : Nat → BT Int} {r : Nat → Value} {gr rc i : Nat} {T' : BT Int} {v' : Value} (h : SSet w B iv (.slice (some ⟨gr, 0, none⟩) ns rc) ns M sb T r) (hi : i < ns) (hB : B ≤ w.heap.size) (hg : w.grownBy w3 (some (sb i))) (hS : SetAt w3 (sb i) T') (ht : ∃ D, w3.heap[sb i]? = some (Obj.cells D 208 (0, 0))) (hb : Below w3.heap.size w3 w4) (hv : (v' = r i ∧ lst T' = lst (T i)) ∨ Cur w3 w4 v' (lst T')) (hM : M ≤ M') (hl : (lst T').length ≤ M') :
    SSet (w4.setCell ⟨gr, i, none⟩ v') B iv (.slice (some ⟨gr, 0, none⟩) ns rc) ns M' sb (fun j => if j = i then T' else T j) (fun j => if j = i then v' else r j) := by
  obtain ⟨D0, hD0⟩ := h.typ i hi
  obtain ⟨D3, hD3⟩ := ht
  obtain ⟨_, hgrlt, Dg, hDg⟩ := own_block h.ref (g := gr) (by simp [Value.ownBlock])
  -- what is no set's block stands in w3; everything of w3 stands in w4
  have k1 : ∀ (g : Nat) D t, t ≠ 208 → w.heap[g]? = some (Obj.cells D t (0, 0)) → w4.heap[g]? = w.heap[g]? := by
    intro g D t hne hD
    have hlt := (Array.getElem?_eq_some_iff.1 hD).1
    have e3 := hg.block g hlt (fun q => by
      injection q with q
      subst q
      rw [hD0] at hD
      injection hD with hD
      injection hD with _ hD _
      exact hne hD.symm)
    exact (hb.block g (by have := hg.size; omega)).trans e3
  have hgr4 : w4.heap[gr]? = some (Obj.cells Dg 149 (0, 0)) := (k1 gr Dg _ (by decide) hDg).trans hDg
  have c0 : ∃ a n c, w4.cell? ⟨gr, 0, none⟩ = some (.slice a n c) := by
    have := h.ref.cells (g := gr) rfl 0 (r 0) (by rw [List.getElem?_map, List.getElem?_range (by omega)]; rfl)
    rw [show (⟨gr, 0, none⟩ : Addr).add 0 = ⟨gr, 0, none⟩ from by unfold Addr.add; split <;> simp_all] at this
    obtain ⟨a, c, e, _, _⟩ := own_slice (h.own 0 (by omega))
    rw [e] at this
    exact ⟨_, _, _, (World.cell?_of_block (w := w) (a := ⟨gr, 0, none⟩) (k1 gr Dg _ (by decide) hDg)).trans this⟩
  have oth : ∀ g, g ≠ gr → (w4.setCell ⟨gr, i, none⟩ v').heap[g]? = w4.heap[g]? := fun g hne => set_other hne
  have node : ∀ (g : Nat) (x : Int), w4.cell? ⟨g, 0, none⟩ = some (eI x) → (w4.setCell ⟨gr, i, none⟩ v').heap[g]? = w4.heap[g]? := by
    intro g x hc
    refine oth g (fun q => ?_)
    subst q
    obtain ⟨a, n, c, e⟩ := c0
    rw [e] at hc
    cases hc
  have setne : ∀ (g : Nat) D, w4.heap[g]? = some (Obj.cells D 208 (0, 0)) → g ≠ gr := by
    intro g D hD q
    subst q
    rw [hgr4] at hD
    injection hD with hD
    injection hD with _ hD _
    exact absurd hD (by decide)
  have s4 : w4.heap[sb i]? = some (Obj.cells D3 208 (0, 0)) := (hb.block _ (Array.getElem?_eq_some_iff.1 hD3).1).trans hD3
  have n3 : ∀ j, j < ns → j ≠ i → ∃ D, w.heap[sb j]? = some (Obj.cells D 208 (0, 0)) ∧ w4.heap[sb j]? = w.heap[sb j]? := by
    intro j hj hne
    obtain ⟨D, hD⟩ := h.typ j hj
    have hlt := (Array.getElem?_eq_some_iff.1 hD).1
    refine ⟨D, hD, ?_⟩
    rw [hb.block _ (by have := hg.size; omega)]
    exact hg.block _ hlt (fun q => by injection q with q; exact hne (h.ap j i hj hi q))
  have node4 : ∀ (g : Nat) (x : Int), w.cell? ⟨g, 0, none⟩ = some (eI x) → w4.heap[g]? = w.heap[g]? := by
    intro g x hc
    have hlt : g < w.heap.size := World.block_lt_of_cell? _ _ hc
    rw [hb.block _ (by have := hg.size; omega)]
    refine hg.block _ hlt (fun q => ?_)
    injection q with q
    subst q
    have := (h.one i hi).1
    rw [hc] at this
    obtain ⟨u, hu⟩ := ptr_pointer (T i)
    rw [hu] at this
    cases this
  refine ⟨?_, ?_, fun j hj => ?_, fun j hj => ?_, h.ge, fun j hj => ?_, fun j hj => ?_, h.ap, h.nil⟩
  · refine own_set_other (own_same h.row (fun g hg' => ?_)) hgr4 (by decide)
    obtain ⟨_, _, D, hD⟩ := own_block h.row hg'
    exact k1 g D _ (by decide) hD
  · have r4 : w4.ownsRow B 149 1 (.slice (some ⟨gr, 0, none⟩) ns rc) ns ((List.range ns).map r) := own_same h.ref (fun g hg' => by
      obtain ⟨_, _, D, hD⟩ := own_block h.ref hg'
      exact k1 g D _ (by decide) hD)
    have := own_store (y := v') r4 (i := i) (by omega)
    rwa [range_set hi] at this
  · by_cases q : j = i
    · subst q
      simp only [↓reduceIte]
      obtain ⟨c, f, hT, hup⟩ := hS
      have e5 := (oth (sb j) (setne _ _ s4)).trans (hb.block _ (Array.getElem?_eq_some_iff.1 hD3).1)
      exact ⟨(World.cell?_of_block (w := w3) (a := ⟨sb j, 0, none⟩) e5).trans c, (World.frozen?_of_block (w := w3) (a := ⟨sb j, 0, none⟩) e5).trans f, inT_same node (InT.below hb hT), hup⟩
    · simp only [if_neg q]
      obtain ⟨D, hD, e4⟩ := n3 j hj q
      obtain ⟨c, f, hT, hup⟩ := h.one j hj
      have e5 := (oth (sb j) (setne _ D (e4.trans hD))).trans e4
      exact ⟨(World.cell?_of_block (w := w) (a := ⟨sb j, 0, none⟩) e5).trans c, (World.frozen?_of_block (w := w) (a := ⟨sb j, 0, none⟩) e5).trans f, inT_same node (inT_same node4 hT), hup⟩
  · by_cases q : j = i
    · subst q
      exact ⟨D3, (oth (sb j) (setne _ _ s4)).trans s4⟩
    · obtain ⟨D, hD, e4⟩ := n3 j hj q
      exact ⟨D, ((oth (sb j) (setne _ D (e4.trans hD))).trans e4).trans hD⟩
  · have old : ∀ j, j < ns → w4.ownsRow B 3 1 (r j) (lst (T j)).length ((lst (T j)).map eI) := fun j hj => own_same (h.own j hj) (fun g hg' => by
      obtain ⟨_, _, D, hD⟩ := own_block (h.own j hj) hg'
      exact k1 g D _ (by decide) hD)
    by_cases q : j = i
    · subst q
      simp only [↓reduceIte]
      rcases hv with ⟨rfl, e⟩ | hc
      · rw [e]
        exact own_set_other (old j hj) hgr4 (by decide)
      · refine own_set_other ?_ hgr4 (by decide)
        refine ⟨hc.2.1, hc.2.2.imp id ?_⟩
        rintro ⟨g, cap, cur, e, h1, h2⟩
        exact ⟨g, cap, cur, e, Nat.le_trans (Nat.le_trans hB hg.size) h1, h2⟩
    · simp only [if_neg q]
      exact own_set_other (old j hj) hgr4 (by decide)
  · by_cases q : j = i
    · simp only [if_pos q]
      exact hl
    · simp only [if_neg q]
      exact Nat.le_trans (h.len j hj) hM
end Go.Proofs.YtkncboinfcnklaaGreatDoor.WI
namespace Go.Proofs.YtkncboinfcnklaaGreatDoor.Str
open Go.RowKit Go.Deep Go.Proofs.YtkncboinfcnklaaGreatDoor.Mth

theorem range_set {n i : Nat} {f : Nat → Value} {x : Value} (hi : i < n) : ((List.range n).map f).set i x = (List.range n).map (fun j => if j = i then x else f j) := by
  apply List.ext_getElem?
  intro k
  rw [List.getElem?_set]
  by_cases q : i = k
  · subst q
    simp [hi]
  · rw [if_neg q]
    simp only [List.getElem?_map]
    by_cases hk : k < n
    · rw [List.getElem?_range hk]
      simp [show ¬ k = i from fun c => q c.symm]
    · rw [List.getElem?_eq_none (by simpa using Nat.not_lt.1 hk)]
      rfl

theorem SSet.added {w w3 w4 : World} {B : Nat} {iv : Value} {ns M M' : Nat} {sb : Nat → Nat} {T : Nat → BT ByteArray} {r : Nat → Value} {gr rc i : Nat} {T' : BT ByteArray} {v' : Value} (h : SSet w B iv (.slice (some ⟨gr, 0, none⟩) ns rc) ns M sb T r) (hi : i < ns) (hB : B ≤ w.heap.size) (hg : w.grownBy w3 (some (sb i))) (hS : SetAt w3 (sb i) T') (ht : ∃ D, w3.heap[sb i]? = some (Obj.cells D 289 (0, 0))) (hb : Below w3.heap.size w3 w4) (hv : (v' = r i ∧ lst T' = lst (T i)) ∨ Cur w3 w4 v' (lst T')) (hM : M ≤ M') (hl : (lst T').length ≤ M') :
    SSet (w4.setCell ⟨gr, i, none⟩ v') B iv (.slice (some ⟨gr, 0, none⟩) ns rc) ns M' sb (fun j => if j = i then T' else T j) (fun j => if j = i then v' else r j) := by
  obtain ⟨D0, hD0⟩ := h.typ i hi
  obtain ⟨D3, hD3⟩ := ht
  obtain ⟨_, hgrlt, Dg, hDg⟩ := own_block h.ref (g := gr) (by simp [Value.ownBlock])
  -- what is no set's block stands in w3; everything of w3 stands in w4
  have k1 : ∀ (g : Nat) D t, t ≠ 289 → w.heap[g]? = some (Obj.cells D t (0, 0)) → w4.heap[g]? = w.heap[g]? := by
    intro g D t hne hD
    have hlt := (Array.getElem?_eq_some_iff.1 hD).1
    have e3 := hg.block g hlt (fun q => by
      injection q with q
      subst q
      rw [hD0] at hD
      injection hD with hD
      injection hD with _ hD _
      exact hne hD.symm)
    exact (hb.block g (by have := hg.size; omega)).trans e3
  have hgr4 : w4.heap[gr]? = some (Obj.cells Dg 58 (0, 0)) := (k1 gr Dg _ (by decide) hDg).trans hDg
  have c0 : ∃ a n c, w4.cell? ⟨gr, 0, none⟩ = some (.slice a n c) := by
    have := h.ref.cells (g := gr) rfl 0 (r 0) (by rw [List.getElem?_map, List.getElem?_range (by omega)]; rfl)
    rw [show (⟨gr, 0, none⟩ : Addr).add 0 = ⟨gr, 0, none⟩ from by unfold Addr.add; split <;> simp_all] at this
    obtain ⟨a, c, e, _, _⟩ := own_slice (h.own 0 (by omega))
    rw [e] at this
    exact ⟨_, _, _, (World.cell?_of_block (w := w) (a := ⟨gr, 0, none⟩) (k1 gr Dg _ (by decide) hDg)).trans this⟩
  have oth : ∀ g, g ≠ gr → (w4.setCell ⟨gr, i, none⟩ v').heap[g]? = w4.heap[g]? := fun g hne => set_other hne
  have node : ∀ (g : Nat) (x : ByteArray), w4.cell? ⟨g, 0, none⟩ = some (eS x) → (w4.setCell ⟨gr, i, none⟩ v').heap[g]? = w4.heap[g]? := by
    intro g x hc
    refine oth g (fun q => ?_)
    subst q
    obtain ⟨a, n, c, e⟩ := c0
    rw [e] at hc
    cases hc
  have setne : ∀ (g : Nat) D, w4.heap[g]? = some (Obj.cells D 289 (0, 0)) → g ≠ gr := by
    intro g D hD q
    subst q
    rw [hgr4] at hD
    injection hD with hD
    injection hD with _ hD _
    exact absurd hD (by decide)
  have s4 : w4.heap[sb i]? = some (Obj.cells D3 289 (0, 0)) := (hb.block _ (Array.getElem?_eq_some_iff.1 hD3).1).trans hD3
  have n3 : ∀ j, j < ns → j ≠ i → ∃ D, w.heap[sb j]? = some (Obj.cells D 289 (0, 0)) ∧ w4.heap[sb j]? = w.heap[sb j]? := by
    intro j hj hne
    obtain ⟨D, hD⟩ := h.typ j hj
    have hlt := (Array.getElem?_eq_some_iff.1 hD).1
    refine ⟨D, hD, ?_⟩
    rw [hb.block _ (by have := hg.size; omega)]
    exact hg.block _ hlt (fun q => by injection q with q; exact hne (h.ap j i hj hi q))
  have node4 : ∀ (g : Nat) (x : ByteArray), w.cell? ⟨g, 0, none⟩ = some (eS x) → w4.heap[g]? = w.heap[g]? := by
    intro g x hc
    have hlt : g < w.heap.size := World.block_lt_of_cell? _ _ hc
    rw [hb.block _ (by have := hg.size; omega)]
    refine hg.block _ hlt (fun q => ?_)
    injection q with q
    subst q
    have := (h.one i hi).1
    rw [hc] at this
    obtain ⟨u, hu⟩ := ptr_pointer (T i)
    rw [hu] at this
    cases this
  refine ⟨?_, ?_, fun j hj => ?_, fun j hj => ?_, h.ge, fun j hj => ?_, fun j hj => ?_, h.ap, h.nil⟩
  · refine own_set_other (own_same h.row (fun g hg' => ?_)) hgr4 (by decide)
    obtain ⟨_, _, D, hD⟩ := own_block h.row hg'
    exact k1 g D _ (by decide) hD
  · have r4 : w4.ownsRow B 58 1 (.slice (some ⟨gr, 0, none⟩) ns rc) ns ((List.range ns).map r) := own_same h.ref (fun g hg' => by
      obtain ⟨_, _, D, hD⟩ := own_block h.ref hg'
      exact k1 g D _ (by decide) hD)
    have := own_store (y := v') r4 (i := i) (by omega)
    rwa [range_set hi] at this
  · by_cases q : j = i
    · subst q
      simp only [↓reduceIte]
      obtain ⟨c, f, hT, hup⟩ := hS
      have e5 := (oth (sb j) (setne _ _ s4)).trans (hb.block _ (Array.getElem?_eq_some_iff.1 hD3).1)
      exact ⟨(World.cell?_of_block (w := w3) (a := ⟨sb j, 0, none⟩) e5).trans c, (World.frozen?_of_block (w := w3) (a := ⟨sb j, 0, none⟩) e5).trans f, inT_same node (InT.below hb hT), hup⟩
    · simp only [if_neg q]
      obtain ⟨D, hD, e4⟩ := n3 j hj q
      obtain ⟨c, f, hT, hup⟩ := h.one j hj
      have e5 := (oth (sb j) (setne _ D (e4.trans hD))).trans e4
      exact ⟨(World.cell?_of_block (w := w) (a := ⟨sb j, 0, none⟩) e5).trans c, (World.frozen?_of_block (w := w) (a := ⟨sb j, 0, none⟩) e5).trans f, inT_same node (inT_same node4 hT), hup⟩
  · by_cases q : j = i
    · subst q
      exact ⟨D3, (oth (sb j) (setne _ _ s4)).trans s4⟩
    · obtain ⟨D, hD, e4⟩ := n3 j hj q
      exact ⟨D, ((oth (sb j) (setne _ D (e4.trans hD))).trans e4).trans hD⟩
  · have old : ∀ j, j < ns → w4.ownsRow B 9 1 (r j) (lst (T j)).length ((lst (T j)).map eS) := fun j hj => own_same (h.own j hj) (fun g hg' => by
      obtain ⟨_, _, D, hD⟩ := own_block (h.own j hj) hg'
      exact k1 g D _ (by decide) hD)
    by_cases q : j = i
    · subst q
      simp only [↓reduceIte]
      rcases hv with ⟨rfl, e⟩ | hc
      · rw [e]
        exact own_set_other (old j hj) hgr4 (by decide)
      · refine own_set_other ?_ hgr4 (by decide)
        refine ⟨hc.2.1, hc.2.2.imp id ?_⟩
        rintro ⟨g, cap, cur, e, h1, h2⟩
        exact ⟨g, cap, cur, e, Nat.le_trans (Nat.le_trans hB hg.size) h1, h2⟩
    · simp only [if_neg q]
      exact own_set_other (old j hj) hgr4 (by decide)
  · by_cases q : j = i
    · simp only [if_pos q]
      exact hl
    · simp only [if_neg q]
      exact Nat.le_trans (h.len j hj) hM
end Go.Proofs.YtkncboinfcnklaaGreatDoor.Str
