import Derived.Test.YtkncboinfcnklaaW7
namespace Go.Proofs.Ytkncboinfcnklaa
open Go.RowKit Go.Deep Mth

theorem Try.info3 : (Try.prog.info? 3).map (fun i => (i.zero, i.size, i.bytes)) = some (some (.int .i64 0), 1, 8) := by kernel_rfl

theorem below_append {B : Nat} {w0 w w2 : World} {v : Value} {o : Obj} {e : TypeId} {n : Nat} {xs : List Value} (hb : Below B w0 w) (hB : B ≤ w.heap.size) (hown : w.ownsRow B e 1 v n xs) (hg : (w.alloc o).grownBy w2 v.ownBlock) : Below B w0 w2 := by
  refine (hb.alloc hB o).grown hg (by simp; omega) ?_
  intro k hk
  rcases hown.2 with ⟨h0, _⟩ | ⟨g, cap, cur, hv, hbase, _⟩
  · subst h0; simp [Value.ownBlock] at hk
  · subst hv; simp [Value.ownBlock] at hk; omega

/-- A slice of the call's own that holds these numbers; below B nothing has turned. -/
def Cur (w0 w : World) (v : Value) (l : List Int) : Prop := Below w0.heap.size w0 w ∧ w.ownsRow w0.heap.size 3 1 v l.length (l.map eI)

theorem cur_append {w0 w w2 : World} {v v2 : Value} {o : Obj} {l : List Int} {a : Int} (h : Cur w0 w v l) (h2 : w2.ownsRow w0.heap.size 3 1 v2 (l.length + 1) (l.map eI ++ [.int .i64 a])) (hg : (w.alloc o).grownBy w2 v.ownBlock) : Cur w0 w2 v2 (l ++ [a]) :=
  ⟨below_append h.1 h.1.size h.2 hg, by simpa using h2⟩

theorem cur_drewN {w0 w : World} {v : Value} {l : List Int} {n : Nat} (h : Cur w0 w v l) : Cur w0 (w.drewN n) v l := ⟨⟨h.1.os, h.1.tape, h.1.output, h.1.size, h.1.block⟩, h.2⟩

def BetP (w0 : World) (l : List Int) (e : Ending) (w' : World) : Prop := ∃ v', e = .returned v' ∧ Cur w0 w' v' l

def BetSaid (lo hi : Int) (w0 : World) (T : BT Int) : Prop := ∀ (u : Option Addr) (w : World) (v : Value) (acc : List Int), T.ptr = .pointer u → InT eI w0 T → (lst T).Pairwise (fun a b : Int => a < b) → Cur w0 w v acc → acc.length + (lst T).length ≤ 1048576 →
  Calls Try.prog 28 #[.pointer u, v, .int .i64 lo, .int .i64 hi] w (BetP w0 (acc ++ btw (fun a b : Int => a < b) lo hi (lst T)))

set_option maxHeartbeats 400000 in
theorem bet_nil (lo hi : Int) (w0 : World) : BetSaid lo hi w0 .nil := by
  intro u w v acc hu _ _ hcur _
  have hu' : u = none := by
    have : Value.pointer none = .pointer u := hu
    injection this with h
    exact h.symm
  subst hu'
  have HC := hide hcur
  clear hu hcur
  go_enter Try.func28, Try.ntmps28
  go_wp2
  go_ret
  exact ⟨v, rfl, by simpa [lst, btw] using HC.out⟩

set_option maxRecDepth 100000 in
set_option maxHeartbeats 4000000 in
theorem bet_node (lo hi : Int) (w0 : World) (b : Nat) (a : Int) (l r : BT Int) (ihl : BetSaid lo hi w0 l) (ihr : BetSaid lo hi w0 r) (s1 s2 : Int) (hs1 : ∀ w, Calls Try.prog 25 #[.int .i64 a, .int .i64 lo] w fun e w' => e = .returned (.int .i64 s1) ∧ w' = w) (hs2 : ∀ w, Calls Try.prog 25 #[.int .i64 a, .int .i64 hi] w fun e w' => e = .returned (.int .i64 s2) ∧ w' = w)
    (u : Option Addr) (w : World) (v : Value) (acc : List Int) (hu : (BT.node b 0 a l r).ptr = .pointer u) (h : InT eI w0 (.node b 0 a l r)) (hup : (lst (.node b 0 a l r)).Pairwise (fun a b : Int => a < b)) (hcur : Cur w0 w v acc) (hb : acc.length + (lst (.node b 0 a l r)).length ≤ 1048576) :
    Calls Try.prog 28 #[.pointer u, v, .int .i64 lo, .int .i64 hi] w (BetP w0 (acc ++ ((if 0 < s1 then btw (fun a b : Int => a < b) lo hi (lst l) else []) ++ ((if 0 ≤ s1 ∧ s2 ≤ 0 then [a] else []) ++ (if s2 < 0 then btw (fun a b : Int => a < b) lo hi (lst r) else []))))) := by
  have hu' : u = some ⟨b, 0, none⟩ := by
    have : Value.pointer (some ⟨b, 0, none⟩) = .pointer u := hu
    injection this with h
    exact h.symm
  subst hu'
  have hblt := inT_lt h
  obtain ⟨_, c0, c1, c2, c3, hl, hr⟩ := h
  obtain ⟨ul, hul⟩ := ptr_pointer l
  obtain ⟨ur, hur⟩ := ptr_pointer r
  rw [hul] at c2
  rw [hur] at c3
  have hlen : (lst (.node b 0 a l r)).length = (lst l).length + 1 + (lst r).length := by simp [lst]; omega
  rw [hlen] at hb
  rw [lst] at hup
  have hB := hcur.1
  have k0 : w.cell? ⟨b, 0, none⟩ = some (.int .i64 a) := (hB.cell (p := ⟨b, 0, none⟩) hblt).trans c0
  have k2 : w.cell? ⟨b, 2, none⟩ = some (.pointer ul) := (hB.cell (p := ⟨b, 2, none⟩) hblt).trans c2
  have k3 : w.cell? ⟨b, 3, none⟩ = some (.pointer ur) := (hB.cell (p := ⟨b, 3, none⟩) hblt).trans c3
  have IL : Hid (∀ w v acc, Cur w0 w v acc → acc.length + (lst l).length ≤ 1048576 → Calls Try.prog 28 #[.pointer ul, v, .int .i64 lo, .int .i64 hi] w (BetP w0 (acc ++ btw (fun a b : Int => a < b) lo hi (lst l)))) :=
    fun w v acc hc hn => ihl ul w v acc hul hl (List.pairwise_append.1 hup).1 hc hn
  have IR : Hid (∀ w v acc, Cur w0 w v acc → acc.length + (lst r).length ≤ 1048576 → Calls Try.prog 28 #[.pointer ur, v, .int .i64 lo, .int .i64 hi] w (BetP w0 (acc ++ btw (fun a b : Int => a < b) lo hi (lst r)))) :=
    fun w v acc hc hn => ihr ur w v acc hur hr (List.pairwise_cons.1 (List.pairwise_append.1 hup).2.1).2 hc hn
  have ln : ∀ x : List Int, (btw (fun a b : Int => a < b) lo hi x).length ≤ x.length := fun x => List.length_filter_le _ _
  have nl := ln (lst l)
  have HC := hide hcur
  have C0 := hide c0
  have C2 := hide c2
  have C3 := hide c3
  have S1 := hide hs1
  have S2 := hide hs2
  clear hu hul hur hl hr c0 c1 c2 c3 hup hlen ihl ihr hcur hB ln hs1 hs2
  generalize btw (fun a b : Int => a < b) lo hi (lst l) = BL at *
  generalize btw (fun a b : Int => a < b) lo hi (lst r) = BR at *
  generalize hres : acc ++ ((if 0 < s1 then BL else []) ++ ((if 0 ≤ s1 ∧ s2 ≤ 0 then [a] else []) ++ (if s2 < 0 then BR else []))) = res
  have HRES := hide hres
  clear hres
  obtain ⟨i0, hi0, hz0, hz1, hz2⟩ := info_parts Try.info3
  go_enter Try.func28, Try.ntmps28
  go_wp2_with fail
  go_quiet (first
    | (go_at_call_of 25 (Value.int .i64 lo); exact Calls.quiet_of_same (S1.out _))
    | (go_at_call_of 25 (Value.int .i64 hi); exact Calls.quiet_of_same (S2.out _)))
  go_wp2_with (first
    | (go_at_call_of 28 (Value.pointer ul); refine (IL.out _ _ _ (cur_drewN HC.out) (by omega)).mono ?_; rintro e w1 ⟨v1, rfl, hcur1⟩; have e0 : w1.cell? ⟨b, 0, none⟩ = some (.int .i64 a) := (hcur1.1.cell (p := ⟨b, 0, none⟩) hblt).trans C0.out; have e3 : w1.cell? ⟨b, 3, none⟩ = some (.pointer ur) := (hcur1.1.cell (p := ⟨b, 3, none⟩) hblt).trans C3.out; have n1 : (acc ++ BL).length ≤ acc.length + (lst l).length := (by simp; omega); have HC1 := hide hcur1; clear hcur1)
    | (at_builtin; refine wpList_append_own _ rfl _ _ 22 rfl w0.heap.size 3 i0 (.int .i64 0) 1 8 Try.underlying22 hi0 hz0 hz1 hz2 rfl (by decide) _ _ _ rfl (HC1.out.2.alloc _) ⟨w1.heap.size, 0, none⟩ 1 1 [.int .i64 a] rfl rfl (cell_one_new _ _ _) (by intro u hu; simp at hu; subst hu; rfl) (by unfold maxLen; omega) (by omega) (by have := HC1.out.1.size; simp at this ⊢; omega) ?_; intro v2 w2 hown2 hgrow2 _; have hc2 := cur_append HC1.out hown2 hgrow2; have f0 : w2.cell? ⟨b, 0, none⟩ = some (.int .i64 a) := (hc2.1.cell (p := ⟨b, 0, none⟩) hblt).trans C0.out; have f3 : w2.cell? ⟨b, 3, none⟩ = some (.pointer ur) := (hc2.1.cell (p := ⟨b, 3, none⟩) hblt).trans C3.out; have n2 : ((acc ++ BL) ++ [a]).length ≤ (acc ++ BL).length + 1 := (by rw [List.length_append]; exact Nat.le_refl _); have HC2 := hide hc2; clear hc2 hown2 hgrow2)
    | (at_builtin; refine wpList_append_own _ rfl _ _ 22 rfl w0.heap.size 3 i0 (.int .i64 0) 1 8 Try.underlying22 hi0 hz0 hz1 hz2 rfl (by decide) _ _ _ rfl ((cur_drewN (n := nq) HC.out).2.alloc _) ⟨w.heap.size, 0, none⟩ 1 1 [.int .i64 a] rfl rfl (cell_one_new _ _ _) (by intro u hu; simp at hu; subst hu; rfl) (by unfold maxLen; omega) (by omega) (by have := (cur_drewN (n := nq) HC.out).1.size; simp at this ⊢; omega) ?_; intro v2 w2 hown2 hgrow2 _; have hc2 := cur_append (cur_drewN (n := nq) HC.out) hown2 hgrow2; have f0 : w2.cell? ⟨b, 0, none⟩ = some (.int .i64 a) := (hc2.1.cell (p := ⟨b, 0, none⟩) hblt).trans C0.out; have f3 : w2.cell? ⟨b, 3, none⟩ = some (.pointer ur) := (hc2.1.cell (p := ⟨b, 3, none⟩) hblt).trans C3.out; have n2 : (acc ++ [a]).length ≤ acc.length + 1 := (by rw [List.length_append]; exact Nat.le_refl _); have HC2 := hide hc2; clear hc2 hown2 hgrow2)
    | (go_at_call_of 28 (Value.pointer ur); refine (IR.out _ _ _ HC2.out (by omega)).mono ?_; rintro e w3 ⟨v3, rfl, hcur3⟩; have HC3 := hide hcur3; clear hcur3)
    | (go_at_call_of 28 (Value.pointer ur); refine (IR.out _ _ _ HC1.out (by omega)).mono ?_; rintro e w3 ⟨v3, rfl, hcur3⟩; have HC3 := hide hcur3; clear hcur3)
    | (go_at_call_of 28 (Value.pointer ur); refine (IR.out _ _ _ (cur_drewN HC.out) (by omega)).mono ?_; rintro e w3 ⟨v3, rfl, hcur3⟩; have HC3 := hide hcur3; clear hcur3))
  all_goals go_ret
  all_goals
    refine ⟨_, rfl, ?_⟩
    rw [← HRES.out]
    first | rw [if_pos (by omega : 0 < s1)] | rw [if_neg (by omega : ¬ 0 < s1)]
    first | rw [if_pos (by omega : 0 ≤ s1 ∧ s2 ≤ 0)] | rw [if_neg (by omega : ¬ (0 ≤ s1 ∧ s2 ≤ 0))]
    first | rw [if_pos (by omega : s2 < 0)] | rw [if_neg (by omega : ¬ s2 < 0)]
    first | simpa using HC3.out | simpa using HC2.out | simpa using HC1.out | simpa using (cur_drewN (n := nq) HC.out)
end Go.Proofs.Ytkncboinfcnklaa
