import Derived.Test.YtkncboinfcnklaaGreatDoorL11
namespace Go.Proofs.YtkncboinfcnklaaGreatDoor
open Go.RowKit Go.Deep Go.Proofs.YtkncboinfcnklaaGreatDoor.Mth

/-- What a step leaves, against the world ahead of it. -/
structure Aft (w0 w' : World) (B wb off : Nat) (T e : TypeId) (sz : Nat) (f : Nat → Value) (tv tv' : Value) (N : Nat) (xs : List Value) (C : Array Value) (Q : Qd) (n : Nat) : Prop where
  row : w'.ownsRow B T 5 tv' (N + 1) (xs ++ [Q.l, Q.a, Q.b, Q.c, .int .i64 (N : Int)])
  wblk : w'.heap[wb]? = some (Obj.cells (C.setIfInBounds off tv') 91 (0, 0))
  same : ∀ g : Nat, g < w0.heap.size → g ≠ wb → some g ≠ tv.ownBlock → w'.heap[g]? = w0.heap[g]?
  os : w'.os = w0.os
  tape : w'.tape = w0.tape
  output : w'.output = w0.output
  size : w0.heap.size ≤ w'.heap.size
  rl : RdM w' e sz Q.l n f
  ra : RdM w' e sz Q.a (n + 1) f
  rb : RdM w' e sz Q.b (n + 2) f
  rc : RdM w' e sz Q.c (n + 3) f

theorem aft_of {w0 wk w' : World} {B0 B wb off : Nat} {T e : TypeId} {sz : Nat} {f : Nat → Value} {tv tv' : Value} {N : Nat} {xs : List Value} {C : Array Value} {Q : Qd} {n : Nat} (hb : Below w0.heap.size w0 wk) (hB : w0.heap.size ≤ B0) (h : Kept wk w' B0 wb off B T e sz f tv tv' N xs C Q n) : Aft w0 w' B wb off T e sz f tv tv' N xs C Q n :=
  ⟨h.row, h.wblk, fun g hg h1 h2 => (h.same g (by omega) h1 h2).trans (hb.block g hg), h.os.trans hb.os, h.tape.trans hb.tape, h.output.trans hb.output, Nat.le_trans hb.size h.size, h.rl, h.ra, h.rb, h.rc⟩

theorem RdM.only {w w' : World} {e t : TypeId} {sz : Nat} {v : Value} {n : Nat} {f : Nat → Value} {g : Nat} {D : Array Value} {fr : Nat × Nat} (h : RdM w e sz v n f) (hg : w.grownBy w' (some g)) (hD : w.heap[g]? = some (Obj.cells D t fr)) (ht : t ≠ e) : RdM w' e sz v n f := by
  refine h.keep fun k C hC => hg.block k (Array.getElem?_eq_some_iff.1 hC).1 (fun q => ?_)
  injection q with q
  subst q
  rw [hC] at hD
  injection hD with hD
  injection hD with _ hD _
  exact ht hD.symm

theorem Aft.only {w0 w w' : World} {B wb off : Nat} {T e t : TypeId} {sz : Nat} {f : Nat → Value} {tv tv' : Value} {N : Nat} {xs : List Value} {C : Array Value} {Q : Qd} {n g : Nat} {D : Array Value} {fr : Nat × Nat} (h : Aft w0 w B wb off T e sz f tv tv' N xs C Q n) (hg : w.grownBy w' (some g)) (hD : w.heap[g]? = some (Obj.cells D t fr)) (ht : t ≠ e) (htT : t ≠ T) (htW : t ≠ 91) (hge : w0.heap.size ≤ g) : Aft w0 w' B wb off T e sz f tv tv' N xs C Q n := by
  refine ⟨own_same h.row (fun k hk => ?_), ?_, fun k hk h1 h2 => ?_, hg.os.trans h.os, hg.tape.trans h.tape, hg.output.trans h.output, Nat.le_trans h.size hg.size, h.rl.only hg hD ht, h.ra.only hg hD ht, h.rb.only hg hD ht, h.rc.only hg hD ht⟩
  · obtain ⟨_, hlt, E, hE⟩ := own_block h.row hk
    refine hg.block k hlt (fun q => ?_)
    injection q with q
    subst q
    rw [hE] at hD
    injection hD with hD
    injection hD with _ hD _
    exact htT hD.symm
  · rw [hg.block wb (Array.getElem?_eq_some_iff.1 h.wblk).1 (fun q => ?_)]
    · exact h.wblk
    · injection q with q
      subst q
      rw [h.wblk] at hD
      injection hD with hD
      injection hD with _ hD _
      exact htW hD.symm
  · rw [hg.block k (by have := h.size; omega) (fun q => by injection q with q; omega)]
    exact h.same k hk h1 h2

theorem Aft.below {w0 w w' : World} {B wb off : Nat} {T e : TypeId} {sz : Nat} {f : Nat → Value} {tv tv' : Value} {N : Nat} {xs : List Value} {C : Array Value} {Q : Qd} {n : Nat} (h : Aft w0 w B wb off T e sz f tv tv' N xs C Q n) (hb : Below w.heap.size w w') : Aft w0 w' B wb off T e sz f tv tv' N xs C Q n :=
  ⟨own_same h.row (fun k hk => hb.block k (own_block h.row hk).2.1), (hb.block wb (Array.getElem?_eq_some_iff.1 h.wblk).1).trans h.wblk, fun k hk h1 h2 => (hb.block k (by have := h.size; omega)).trans (h.same k hk h1 h2), hb.os.trans h.os, hb.tape.trans h.tape, hb.output.trans h.output, Nat.le_trans h.size hb.size, h.rl.below hb, h.ra.below hb, h.rb.below hb, h.rc.below hb⟩

/-- What came in stays. -/
theorem Aft.frame {w0 w' : World} {B wb off : Nat} {T e : TypeId} {sz : Nat} {f : Nat → Value} {tv tv' : Value} {N : Nat} {xs ys : List Value} {C : Array Value} {Q : Qd} {n M : Nat} (h : Aft w0 w' B wb off T e sz f tv tv' N xs C Q n) (hwb : B ≤ wb) (hrow : w0.ownsRow B T 5 tv M ys) (hB : B ≤ w0.heap.size) : Below B w0 w' :=
  ⟨h.os, h.tape, h.output, h.size, fun k hk => h.same k (by omega) (by omega) (fun q => by have := (own_block hrow q).1; omega)⟩

/-- Another kind of book. -/
theorem Aft.other {w0 w' : World} {B wb off : Nat} {T e T2 e2 : TypeId} {sz sz2 : Nat} {f : Nat → Value} {F2 : Nat → Nat → Value} {tv tv' v2 : Value} {N N2 M : Nat} {xs ys : List Value} {C D : Array Value} {Q : Qd} {n : Nat} (h : Aft w0 w' B wb off T e sz f tv tv' N xs C Q n) (hD : w0.heap[wb]? = some (Obj.cells D 91 (0, 0))) (hrow : w0.ownsRow B T 5 tv M ys) (h2 : Book w0 B T2 e2 sz2 F2 v2 N2) (a1 : T ≠ T2) (a2 : T ≠ e2) (a3 : T2 ≠ 91) (a4 : e2 ≠ 91) : Book w' B T2 e2 sz2 F2 v2 N2 := by
  have key : ∀ (t : TypeId), T ≠ t → t ≠ 91 → ∀ (g : Nat) E, w0.heap[g]? = some (Obj.cells E t (0, 0)) → w'.heap[g]? = w0.heap[g]? := by
    intro t h1 h2 g E hE
    refine h.same g (Array.getElem?_eq_some_iff.1 hE).1 (fun q => ?_) (fun q => ?_)
    · subst q
      rw [hE] at hD
      injection hD with hD
      injection hD with _ hD _
      exact h2 hD
    · obtain ⟨_, _, E2, hE2⟩ := own_block hrow q
      rw [hE] at hE2
      injection hE2 with hE2
      injection hE2 with _ hE2 _
      exact h1 hE2.symm
  exact h2.keep (key T2 a1 a3) (key e2 a2 a4)

/-- Scripts stay as they are. -/
def KeepO (w w' : World) : Prop := ∀ (g : Nat) C, w.heap[g]? = some (Obj.cells C 94 (0, 0)) → w'.heap[g]? = w.heap[g]?
theorem keepO_below {w w' : World} (hb : Below w.heap.size w w') : KeepO w w' := fun g _ hg => hb.block g (Array.getElem?_eq_some_iff.1 hg).1
theorem Aft.keepO {w0 w' : World} {B wb off : Nat} {T e : TypeId} {sz : Nat} {f : Nat → Value} {tv tv' : Value} {N M : Nat} {xs ys : List Value} {C D : Array Value} {Q : Qd} {n : Nat} (h : Aft w0 w' B wb off T e sz f tv tv' N xs C Q n) (hD : w0.heap[wb]? = some (Obj.cells D 91 (0, 0))) (hrow : w0.ownsRow B T 5 tv M ys) (hT : T ≠ 94) : KeepO w0 w' := by
  intro g E hE
  refine h.same g (Array.getElem?_eq_some_iff.1 hE).1 (fun q => ?_) (fun q => ?_)
  · subst q
    rw [hE] at hD
    injection hD with hD
    injection hD with _ hD _
    exact absurd hD (by decide)
  · obtain ⟨_, _, E2, hE2⟩ := own_block hrow q
    rw [hE] at hE2
    injection hE2 with hE2
    injection hE2 with _ hE2 _
    exact hT hE2.symm

/-- The book itself, one list longer. -/
theorem Aft.book {w0 w' : World} {B wb off : Nat} {T e : TypeId} {sz : Nat} {F : Nat → Nat → Value} {tv tv' : Value} {N : Nat} {q : Nat → Qd} {C D : Array Value} {Q : Qd} {n : Nat} (h : Aft w0 w' B wb off T e sz (F N) tv tv' N ((List.range N).flatMap (qc q)) C Q n) (hD : w0.heap[wb]? = some (Obj.cells D 91 (0, 0))) (hrow : w0.ownsRow B T 5 tv N ((List.range N).flatMap (qc q))) (hall : ∀ i, i < N → (∃ n, n ≤ 4194304 ∧ RdM w0 e sz (q i).l n (F i)) ∧ (∃ n, n ≤ 4194304 ∧ RdM w0 e sz (q i).a n (F i)) ∧ (∃ n, n ≤ 4194304 ∧ RdM w0 e sz (q i).b n (F i)) ∧ (∃ n, n ≤ 4194304 ∧ RdM w0 e sz (q i).c n (F i))) (a2 : T ≠ e) (a4 : e ≠ 91) (hn : n + 3 ≤ 4194304) : Book w' B T e sz F tv' (N + 1) := by
  have key : ∀ (g : Nat) E, w0.heap[g]? = some (Obj.cells E e (0, 0)) → w'.heap[g]? = w0.heap[g]? := by
    intro g E hE
    refine h.same g (Array.getElem?_eq_some_iff.1 hE).1 (fun q => ?_) (fun q => ?_)
    · subst q
      rw [hE] at hD
      injection hD with hD
      injection hD with _ hD _
      exact a4 hD
    · obtain ⟨_, _, E2, hE2⟩ := own_block hrow q
      rw [hE] at hE2
      injection hE2 with hE2
      injection hE2 with _ hE2 _
      exact a2 hE2.symm
  refine ⟨fun i => if i = N then Q else q i, ?_, fun i hi => ?_⟩
  · have e1 : (List.range (N + 1)).flatMap (qc (fun i => if i = N then Q else q i)) = (List.range N).flatMap (qc q) ++ [Q.l, Q.a, Q.b, Q.c, .int .i64 (N : Int)] := by
      rw [List.range_succ, List.flatMap_append]
      congr 1
      · unfold List.flatMap
        congr 1
        apply List.map_congr_left
        intro i hi
        have := List.mem_range.1 hi
        unfold qc
        dsimp only
        rw [if_neg (by omega)]
      · simp [qc]
    rw [e1]
    exact h.row
  · by_cases c : i = N
    · subst c
      dsimp only
      rw [if_pos rfl]
      exact ⟨⟨n, by omega, h.rl⟩, ⟨n + 1, by omega, h.ra⟩, ⟨n + 2, by omega, h.rb⟩, ⟨n + 3, by omega, h.rc⟩⟩
    · dsimp only
      rw [if_neg c]
      obtain ⟨⟨n0, l0, r0⟩, ⟨n1, l1, r1⟩, ⟨n2, l2, r2⟩, ⟨n3, l3, r3⟩⟩ := hall i (by omega)
      exact ⟨⟨n0, l0, r0.keep key⟩, ⟨n1, l1, r1.keep key⟩, ⟨n2, l2, r2.keep key⟩, ⟨n3, l3, r3.keep key⟩⟩

/-- The law's world, with no more than M lists of each kind. -/
def SI (w : World) (B wb : Nat) (g0 g1 g2 g3 : Value) (M : Nat) : Prop := ∃ kb kt ke C Nb Nt Ne, SInv w B wb g0 g1 g2 g3 kb kt ke C Nb Nt Ne ∧ Nb ≤ M ∧ Nt ≤ M ∧ Ne ≤ M

theorem sinv_text {w0 w' : World} {B wb : Nat} {g0 g1 g2 g3 kb kt ke kt' : Value} {C : Array Value} {Nb Nt Ne M n : Nat} {q : Nat → Qd} {Q : Qd} (h : SInv w0 B wb g0 g1 g2 g3 kb kt ke C Nb Nt Ne) (hrow : w0.ownsRow B 166 5 kt Nt ((List.range Nt).flatMap (qc q))) (hall : ∀ i, i < Nt → (∃ n, n ≤ 4194304 ∧ RdM w0 9 1 (q i).l n (fT i)) ∧ (∃ n, n ≤ 4194304 ∧ RdM w0 9 1 (q i).a n (fT i)) ∧ (∃ n, n ≤ 4194304 ∧ RdM w0 9 1 (q i).b n (fT i)) ∧ (∃ n, n ≤ 4194304 ∧ RdM w0 9 1 (q i).c n (fT i)))
    (ha : Aft w0 w' B wb 11 166 9 1 (fT Nt) kt kt' Nt ((List.range Nt).flatMap (qc q)) C Q n) (hn : n + 3 ≤ 4194304) (h1 : Nb ≤ M) (h2 : Nt ≤ M) (h3 : Ne ≤ M) : SI w' B wb g0 g1 g2 g3 (M + 1) := by
  refine ⟨kb, kt', ke, C.setIfInBounds 11 kt', Nb, Nt + 1, Ne, ⟨ha.wblk, h.ge, by rw [h.cs]; rfl, ?_, ?_, ?_⟩, by omega, by omega, by omega⟩
  · exact ha.other h.blk hrow h.bb (by decide) (by decide) (by decide) (by decide)
  · exact ha.book h.blk hrow hall (by decide) (by decide) hn
  · exact ha.other h.blk hrow h.be (by decide) (by decide) (by decide) (by decide)
theorem sinv_byte {w0 w' : World} {B wb : Nat} {g0 g1 g2 g3 kb kt ke kb' : Value} {C : Array Value} {Nb Nt Ne M n : Nat} {q : Nat → Qd} {Q : Qd} (h : SInv w0 B wb g0 g1 g2 g3 kb kt ke C Nb Nt Ne) (hrow : w0.ownsRow B 160 5 kb Nb ((List.range Nb).flatMap (qc q))) (hall : ∀ i, i < Nb → (∃ n, n ≤ 4194304 ∧ RdM w0 5 1 (q i).l n (fB i)) ∧ (∃ n, n ≤ 4194304 ∧ RdM w0 5 1 (q i).a n (fB i)) ∧ (∃ n, n ≤ 4194304 ∧ RdM w0 5 1 (q i).b n (fB i)) ∧ (∃ n, n ≤ 4194304 ∧ RdM w0 5 1 (q i).c n (fB i)))
    (ha : Aft w0 w' B wb 9 160 5 1 (fB Nb) kb kb' Nb ((List.range Nb).flatMap (qc q)) C Q n) (hn : n + 3 ≤ 4194304) (h1 : Nb ≤ M) (h2 : Nt ≤ M) (h3 : Ne ≤ M) : SI w' B wb g0 g1 g2 g3 (M + 1) := by
  refine ⟨kb', kt, ke, C.setIfInBounds 9 kb', Nb + 1, Nt, Ne, ⟨ha.wblk, h.ge, by rw [h.cs]; rfl, ?_, ?_, ?_⟩, by omega, by omega, by omega⟩
  · exact ha.book h.blk hrow hall (by decide) (by decide) hn
  · exact ha.other h.blk hrow h.bt (by decide) (by decide) (by decide) (by decide)
  · exact ha.other h.blk hrow h.be (by decide) (by decide) (by decide) (by decide)
theorem sinv_ent {w0 w' : World} {B wb : Nat} {g0 g1 g2 g3 kb kt ke ke' : Value} {C : Array Value} {Nb Nt Ne M n : Nat} {q : Nat → Qd} {Q : Qd} (h : SInv w0 B wb g0 g1 g2 g3 kb kt ke C Nb Nt Ne) (hrow : w0.ownsRow B 169 5 ke Ne ((List.range Ne).flatMap (qc q))) (hall : ∀ i, i < Ne → (∃ n, n ≤ 4194304 ∧ RdM w0 66 3 (q i).l n (fE i)) ∧ (∃ n, n ≤ 4194304 ∧ RdM w0 66 3 (q i).a n (fE i)) ∧ (∃ n, n ≤ 4194304 ∧ RdM w0 66 3 (q i).b n (fE i)) ∧ (∃ n, n ≤ 4194304 ∧ RdM w0 66 3 (q i).c n (fE i)))
    (ha : Aft w0 w' B wb 12 169 66 3 (fE Ne) ke ke' Ne ((List.range Ne).flatMap (qc q)) C Q n) (hn : n + 3 ≤ 4194304) (h1 : Nb ≤ M) (h2 : Nt ≤ M) (h3 : Ne ≤ M) : SI w' B wb g0 g1 g2 g3 (M + 1) := by
  refine ⟨kb, kt, ke', C.setIfInBounds 12 ke', Nb, Nt, Ne + 1, ⟨ha.wblk, h.ge, by rw [h.cs]; rfl, ?_, ?_, ?_⟩, by omega, by omega, by omega⟩
  · exact ha.other h.blk hrow h.bb (by decide) (by decide) (by decide) (by decide)
  · exact ha.other h.blk hrow h.bt (by decide) (by decide) (by decide) (by decide)
  · exact ha.book h.blk hrow hall (by decide) (by decide) hn
end Go.Proofs.YtkncboinfcnklaaGreatDoor
