import Derived.Test.YtkncboinfcnklaaGreatDoorL2
import Derived.Deep.RegionHeld3
namespace Go.Proofs.YtkncboinfcnklaaGreatDoor
open Go.RowKit Go.Deep Go.Proofs.YtkncboinfcnklaaGreatDoor.Mth

/-- A list that came out, and what it was appended to. -/
structure Qd where
  l : Value
  a : Value
  b : Value
  c : Value
def qc (q : Nat → Qd) (i : Nat) : List Value := [(q i).l, (q i).a, (q i).b, (q i).c, .int .i64 (i : Int)]

/-- While a list is kept. -/
structure KSt (w W : World) (B0 xb : Nat) (T e : TypeId) (sz : Nat) (v : Value) (n : Nat) (f : Nat → Value) (X : Array Value) (us : List (Value × Nat)) : Prop where
  own : W.ownsRow B0 e sz v n (mks f (n * sz))
  x : W.heap[xb]? = some (Obj.cells X T (0, 0))
  ge : B0 ≤ xb
  same : ∀ g : Nat, g < B0 → W.heap[g]? = w.heap[g]?
  os : W.os = w.os
  tape : W.tape = w.tape
  output : W.output = w.output
  size : w.heap.size ≤ W.heap.size
  rd : ∀ p ∈ us, RdM W e sz p.1 p.2 f

theorem own_block {w : World} {B : Nat} {e : TypeId} {sz : Nat} {v : Value} {n : Nat} {xs : List Value} (h : w.ownsRow B e sz v n xs) {g : Nat} (hg : some g = v.ownBlock) : B ≤ g ∧ g < w.heap.size ∧ ∃ C, w.heap[g]? = some (Obj.cells C e (0, 0)) := by
  rcases h.2 with ⟨rfl, _⟩ | ⟨g', cap, cur, rfl, h1, h2, _⟩
  · simp [Value.ownBlock] at hg
  · simp [Value.ownBlock] at hg
    subst hg
    exact ⟨h1, (Array.getElem?_eq_some_iff.1 h2).1, cur, h2⟩

theorem own_slice {w : World} {B : Nat} {e : TypeId} {sz : Nat} {v : Value} {n : Nat} {xs : List Value} (h : w.ownsRow B e sz v n xs) : ∃ a c, v = .slice a n c ∧ n ≤ c ∧ c ≤ maxLen := by
  rcases h.2 with ⟨rfl, rfl⟩ | ⟨g, cap, cur, rfl, _, _, h1, h2, _⟩
  · exact ⟨none, 0, rfl, Nat.le_refl _, by unfold maxLen; omega⟩
  · exact ⟨_, cap, rfl, h1, h2⟩

theorem KSt.app {w W W2 : World} {B0 xb : Nat} {T e : TypeId} {sz : Nat} {v v2 : Value} {n m : Nat} {f : Nat → Value} {X : Array Value} {us : List (Value × Nat)} {o : Obj} {i : Nat} (h : KSt w W B0 xb T e sz v n f X us) (hT : T ≠ e)
    (h1 : W2.ownsRow B0 e sz v2 (n + m) (mks f (n * sz) ++ (List.range (m * sz)).map (fun j => f (n * sz + j)))) (h2 : (W.alloc o).grownBy W2 v.ownBlock) (h3 : W2.ownsRow B0 e sz v n (mks f (n * sz))) (h4 : v2.ownBlock = v.ownBlock ∨ (W.alloc o).grownBy W2 none) (hus : ∀ p ∈ us, p.2 ≤ n + m) :
    KSt w (W2.setCell ⟨xb, i, none⟩ v2) B0 xb T e sz v n f (X.setIfInBounds i v2) ((v2, n + m) :: us) := by
  have hxs := (Array.getElem?_eq_some_iff.1 h.x).1
  have hne : ∀ g C, W.heap[g]? = some (Obj.cells C T (0, 0)) → some g ≠ v.ownBlock := by
    intro g C hC q
    obtain ⟨_, _, D, hD⟩ := own_block h.own q
    rw [hC] at hD
    injection hD with hD
    injection hD with _ hD _
    exact hT hD
  have hx2 : W2.heap[xb]? = some (Obj.cells X T (0, 0)) := by
    rw [h2.block xb (by simp; omega) (hne xb X h.x), _root_.Go.heap_alloc_old W o hxs]
    exact h.x
  have ho : W2.ownsRow B0 e sz v2 (n + m) (mks f ((n + m) * sz)) := by
    rw [Nat.add_mul, mks_app]; exact h1
  refine ⟨own_set_other h3 hx2 hT, ?_, h.ge, ?_, ?_, ?_, ?_, ?_, ?_⟩
  · simp [World.setCell, Array.getElem?_modify, hx2]
  · intro g hg
    have hge := h.ge
    rw [set_other (by omega), h2.block g (by simp; omega) (fun q => by have := (own_block h.own q).1; omega), _root_.Go.heap_alloc_old W o (r := g) (by omega)]
    exact h.same g hg
  · exact h2.os.trans h.os
  · exact h2.tape.trans h.tape
  · exact h2.output.trans h.output
  · have q1 := h2.size
    have q2 := h.size
    simp at q1 ⊢
    omega
  · intro p hp
    rcases List.mem_cons.1 hp with q | q
    · subst q
      exact rdM_set (mks_own ho) hx2 hT
    · exact rdM_set (rdM_app ((h.rd p q).below (below_alloc W o)) (hus p q) ho h2 h4) hx2 hT

theorem KSt.x2 {w W W2 : World} {B0 xb : Nat} {T e : TypeId} {sz : Nat} {v : Value} {n : Nat} {f : Nat → Value} {X : Array Value} {us : List (Value × Nat)} {o : Obj} (h : KSt w W B0 xb T e sz v n f X us) (hT : T ≠ e) (h2 : (W.alloc o).grownBy W2 v.ownBlock) : W2.heap[xb]? = some (Obj.cells X T (0, 0)) := by
  have hxs := (Array.getElem?_eq_some_iff.1 h.x).1
  rw [h2.block xb (by simp; omega) (fun q => ?_), _root_.Go.heap_alloc_old W o hxs]
  · exact h.x
  · obtain ⟨_, _, D, hD⟩ := own_block h.own q
    rw [h.x] at hD
    injection hD with hD
    injection hD with _ hD _
    exact hT hD

/-- What the keeping leaves. -/
structure Kept (w w' : World) (B0 wb off B : Nat) (T e : TypeId) (sz : Nat) (f : Nat → Value) (tv tv' : Value) (N : Nat) (xs : List Value) (C : Array Value) (Q : Qd) (n : Nat) : Prop where
  row : w'.ownsRow B T 5 tv' (N + 1) (xs ++ [Q.l, Q.a, Q.b, Q.c, .int .i64 (N : Int)])
  wblk : w'.heap[wb]? = some (Obj.cells (C.setIfInBounds off tv') 91 (0, 0))
  same : ∀ g : Nat, g < B0 → g ≠ wb → some g ≠ tv.ownBlock → w'.heap[g]? = w.heap[g]?
  os : w'.os = w.os
  tape : w'.tape = w.tape
  output : w'.output = w.output
  size : w.heap.size ≤ w'.heap.size
  rl : RdM w' e sz Q.l n f
  ra : RdM w' e sz Q.a (n + 1) f
  rb : RdM w' e sz Q.b (n + 2) f
  rc : RdM w' e sz Q.c (n + 3) f

theorem RdM.own_app {w w' : World} {e T : TypeId} {sz : Nat} {u : Value} {k : Nat} {f : Nat → Value} {B N : Nat} {tv : Value} {xs : List Value} {o : Obj} (h : RdM w e sz u k f) (ho : w.ownsRow B T 5 tv N xs) (hg : (w.alloc o).grownBy w' tv.ownBlock) (hT : T ≠ e) : RdM w' e sz u k f := by
  refine h.keep fun g C hC => ?_
  have hlt := (Array.getElem?_eq_some_iff.1 hC).1
  rw [hg.block g (by simp; omega) (fun q => ?_), _root_.Go.heap_alloc_old w o hlt]
  obtain ⟨_, _, D, hD⟩ := own_block ho q
  rw [hC] at hD
  injection hD with hD
  injection hD with _ hD _
  exact hT hD.symm

theorem kept_of {w W W2 : World} {B0 xb wb off B : Nat} {T e : TypeId} {sz : Nat} {v tv tv' : Value} {n N : Nat} {f : Nat → Value} {X C : Array Value} {xs : List Value} {va vb vc : Value} {o : Obj}
    (h : KSt w W B0 xb T e sz v n f X [(vc, n + 3), (vb, n + 2), (va, n + 1)]) (hT : T ≠ e) (hTW : T ≠ 91) (heW : 91 ≠ e) (hwb : wb < B0) (hC : w.heap[wb]? = some (Obj.cells C 91 (0, 0)))
    (hrow : W.ownsRow B T 5 tv N xs) (h1 : W2.ownsRow B T 5 tv' (N + 1) (xs ++ [v, va, vb, vc, .int .i64 (N : Int)])) (h2 : (W.alloc o).grownBy W2 tv.ownBlock) (hB0 : B0 ≤ w.heap.size) :
    Kept w (W2.setCell ⟨wb, off, none⟩ tv') B0 wb off B T e sz f tv tv' N xs C ⟨v, va, vb, vc⟩ n := by
  have hs := h.size
  have hW : W.heap[wb]? = some (Obj.cells C 91 (0, 0)) := (h.same wb hwb).trans hC
  have hne : some wb ≠ tv.ownBlock := by
    intro q
    obtain ⟨_, _, D, hD⟩ := own_block hrow q
    rw [hW] at hD
    injection hD with hD
    injection hD with _ hD _
    exact hTW hD.symm
  have hW2 : W2.heap[wb]? = some (Obj.cells C 91 (0, 0)) := by
    rw [h2.block wb (by simp; omega) hne, _root_.Go.heap_alloc_old W o (r := wb) (by omega)]
    exact hW
  have fin : ∀ {u : Value} {k : Nat}, RdM W e sz u k f → RdM (W2.setCell ⟨wb, off, none⟩ tv') e sz u k f := fun hu => rdM_set (hu.own_app hrow h2 hT) hW2 heW
  refine ⟨own_set_other h1 hW2 (Ne.symm hTW), ?_, ?_, ?_, ?_, ?_, ?_, fin (mks_own h.own), fin (h.rd (va, n + 1) (by simp)), fin (h.rd (vb, n + 2) (by simp)), fin (h.rd (vc, n + 3) (by simp))⟩
  · simp [World.setCell, Array.getElem?_modify, hW2]
  · intro g hg hgw hgt
    rw [set_other hgw, h2.block g (by simp; omega) hgt, _root_.Go.heap_alloc_old W o (r := g) (by omega)]
    exact h.same g hg
  · exact h2.os.trans h.os
  · exact h2.tape.trans h.tape
  · exact h2.output.trans h.output
  · have q1 := h2.size
    simp at q1 ⊢
    omega

theorem own_same {w w' : World} {B : Nat} {e : TypeId} {sz : Nat} {v : Value} {n : Nat} {xs : List Value} (h : w.ownsRow B e sz v n xs) (hs : ∀ g, some g = v.ownBlock → w'.heap[g]? = w.heap[g]?) : w'.ownsRow B e sz v n xs := by
  refine ⟨h.1, h.2.imp id ?_⟩
  rintro ⟨g, cap, cur, rfl, h1, hg, h2⟩
  exact ⟨g, cap, cur, rfl, h1, (hs g rfl).trans hg, h2⟩

/-- A block beside the row that was appended to. -/
theorem beside {W W2 : World} {tv : Value} {o : Obj} {g : Nat} {D : Obj} (h2 : (W.alloc o).grownBy W2 tv.ownBlock) (hg : W.heap[g]? = some D) (hne : some g ≠ tv.ownBlock) : W2.heap[g]? = some D := by
  have hlt := (Array.getElem?_eq_some_iff.1 hg).1
  rw [h2.block g (by simp; omega) hne, _root_.Go.heap_alloc_old W o hlt]
  exact hg

theorem cells_new (w : World) (cs : Array Value) (t : TypeId) (xs : List Value) (h : cs.toList = xs) : ∀ j u, xs[j]? = some u → (w.alloc (.cells cs t)).cell? ((⟨w.heap.size, 0, none⟩ : Addr).add j) = some u := by
  intro j u hj
  have hb : (w.alloc (.cells cs t)).heap[w.heap.size]? = some (.cells cs t (0, 0)) := by
    show (w.heap.push _)[w.heap.size]? = _
    rw [Array.getElem?_push, if_pos rfl]
  rw [show (⟨w.heap.size, 0, none⟩ : Addr).add j = ⟨w.heap.size, j, none⟩ from by unfold Addr.add; split <;> simp_all]
  simp only [World.cell?, hb]
  subst h
  simpa using hj

theorem cells_new2 (w : World) (b : Nat) (hb0 : b = w.heap.size) (cs : Array Value) (t : TypeId) (xs : List Value) (h : cs.toList = xs) : ∀ j u, xs[j]? = some u → (w.alloc (.cells cs t)).cell? ((⟨b, 0, none⟩ : Addr).add j) = some u := by
  subst hb0
  exact cells_new w cs t xs h

theorem cell_of {w : World} {b : Nat} {C : Array Value} {t : TypeId} {j : Nat} {u : Value} (h : w.heap[b]? = some (Obj.cells C t (0, 0))) (hu : C[j]? = some u) : w.cell? ⟨b, j, none⟩ = some u ∧ w.frozen? ⟨b, j, none⟩ = false := by
  constructor
  · simp only [World.cell?, h]; exact hu
  · simp [World.frozen?, h]
end Go.Proofs.YtkncboinfcnklaaGreatDoor
