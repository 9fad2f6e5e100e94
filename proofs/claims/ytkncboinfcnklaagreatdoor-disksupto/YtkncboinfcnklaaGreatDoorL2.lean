import Derived.Test.YtkncboinfcnklaaGreatDoorL1
import Derived.Maps.AppendAt
namespace Go.Proofs.YtkncboinfcnklaaGreatDoor
open Go.RowKit Go.Deep Go.Proofs.YtkncboinfcnklaaGreatDoor.Mth

section
variable {P : Program} (w : World)

/-- append onto a slice of the call's own: what the elder slice, and the rest of memory, are behind it. -/
theorem run_append_keep (base : Nat) (t ty e : TypeId) (i : TypeInfo) (z : Value) (size bytes : Nat) (ht : P.underlying t = some (.slice e)) (hi : P.info? e = some i) (hz : i.zero = some z)
    (hsize : i.size = size) (hby : i.bytes = bytes) (hzs : z.cells.size = size) (hsz : 0 < size)
    (v : Value) (n : Nat) (xs : List Value) (hown : w.ownsRow base e size v n xs)
    (a : Addr) (m c : Nat) (news : List Value) (hl : news.length = m * size) (hnews : ∀ j u, news[j]? = some u → w.cell? (a.add j) = some u) (h1 : ∀ u ∈ news, u.oneCell' = true)
    (h63 : n + m ≤ maxLen) (hbytes : (n + m) * bytes ≤ 140737488355328) (hbase : base ≤ w.heap.size) (_hm0 : 0 < m) :
    ∃ v' w', (Builtin.append_ #[t, t] ty #[v, .slice (some a) m c]).run P w = .ok v' w' ∧ w'.ownsRow base e size v' (n + m) (xs ++ news) ∧ w.grownBy w' v.ownBlock ∧
      w'.ownsRow base e size v n xs ∧ (v'.ownBlock = v.ownBlock ∨ w.grownBy w' none) := by
  obtain ⟨v', w', hr, h2, h3, h4, h5⟩ := run_append_own_at (P := P) w base t ty e i z size bytes ht hi hz hsize hby hzs hsz v n xs hown a m c news hl hnews h1 h63 hbytes hbase
  refine ⟨v', w', hr, h2, h3, ?_⟩
  subst hsize
  subst hby
  have hsmall : n + m ≤ 9223372036854775807 := by simp only [maxLen] at h63; omega
  rcases hown.2 with ⟨rfl, rfl⟩ | ⟨g, cap, cur, rfl, hbg, hg, hnc, hcm, hcs, htake⟩
  · have hx : xs = [] := List.eq_nil_of_length_eq_zero (by simpa using hown.1)
    subst hx
    exact ⟨World.ownsRow_nil _ _ _ _, Or.inr h3⟩
  · by_cases hroom : n + m ≤ cap
    · have hfit : n * i.size + news.length ≤ cur.size := by rw [hl, hcs, ← Nat.add_mul]; exact Nat.mul_le_mul_right _ hroom
      have hr' := run_append_room (P := P) w t ty e i ht hi g n cap cur hg a m c news hl hnews h1 hroom hfit
      rw [hr] at hr'
      injection hr' with e1 e2
      subst e1 e2
      refine ⟨⟨hown.1, .inr ⟨g, cap, _, rfl, hbg, setRow_heap w g cur _ e _ hg, hnc, hcm, ?_, ?_⟩⟩, Or.inl rfl⟩
      · simp only [List.size_toArray, List.length_append, List.length_take, List.length_drop, Array.length_toList]
        omega
      · rw [htake, List.append_assoc, List.take_append_of_le_length (by rw [hown.1]; exact Nat.le_refl _), List.take_of_length_le (by rw [hown.1]; exact Nat.le_refl _)]
    · have holds : ∀ j u, xs[j]? = some u → w.cell? ((⟨g, 0, none⟩ : Addr).add j) = some u := hown.cells (g := g) rfl
      have hr' := run_append_grow (P := P) w t ty e i z ht hi hz ⟨g, 0, none⟩ n cap xs hown.1 holds a m c news hl hnews (by omega) (by omega) (growslice_fits (by omega) hbytes)
      rw [hr] at hr'
      injection hr' with e1 e2
      subst e1 e2
      have hg2 : w.grownBy (w.drew.alloc (.cells (xs.toArray ++ news.toArray ++ Builtin.zeroCells z.cells (grownCap w (n + m) cap e - (n + m))) e)) none := ⟨rfl, rfl, rfl, by simp, fun k hk _ => _root_.Go.heap_alloc_old w.drew _ hk⟩
      exact ⟨hown.kept hg2 (Or.inr (by simp [Value.ownBlock])), Or.inr hg2⟩

theorem wpList_append_keep {ops : Array Oper} {rest : List Oper} {o : Oper} {a : Act} {Q : Exit → Act → World → Prop} (hgd : o.guard = none) (s x : Operand) (t : TypeId)
    (ho : o.op = .call { callee := .builtin .append, args := #[s, x], argTypes := #[t, t] })
    (base : Nat) (e : TypeId) (i : TypeInfo) (z : Value) (size bytes : Nat) (ht : P.underlying t = some (.slice e)) (hi : P.info? e = some i) (hz : i.zero = some z)
    (hsize : i.size = size) (hby : i.bytes = bytes) (hzs : z.cells.size = size) (hsz : 0 < size)
    (v : Value) (n : Nat) (xs : List Value) (hs : a.eval s = v) (hown : w.ownsRow base e size v n xs)
    (ad : Addr) (m c : Nat) (news : List Value) (hx : a.eval x = .slice (some ad) m c) (hl : news.length = m * size) (hnews : ∀ j u, news[j]? = some u → w.cell? (ad.add j) = some u) (h1 : ∀ u ∈ news, u.oneCell' = true)
    (h63 : n + m ≤ maxLen) (hbytes : (n + m) * bytes ≤ 140737488355328) (hbase : base ≤ w.heap.size) (hm0 : 0 < m)
    (h : ∀ v' w', w'.ownsRow base e size v' (n + m) (xs ++ news) → w.grownBy w' v.ownBlock → w'.ownsRow base e size v n xs → (v'.ownBlock = v.ownBlock ∨ w.grownBy w' none) → wpList P ops Q rest (a.put o.dst v') w') :
    wpList P ops Q (o :: rest) a w := by
  refine wpList_plain hgd fun K hK => ?_
  obtain ⟨v', w', hr, h2, h3, h4, h5⟩ := run_append_keep (P := P) w base t o.type e i z size bytes ht hi hz hsize hby hzs hsz v n xs hown ad m c news hl hnews h1 h63 hbytes hbase hm0
  unfold Oper.wp execOp
  simp only [ho, resolve, invoke, builtin, Sem.run_bind, Sem.run_pure, Result.andThen_ok, List.map_toArray, List.map_cons, List.map_nil, hs, hx, hr]
  exact hK _ _ (h v' w' h2 h3 h4 h5)
end

/-- The marks of so many elements. -/
def mks (f : Nat → Value) (n : Nat) : List Value := (List.range n).map f
theorem mks_len (f : Nat → Value) (n : Nat) : (mks f n).length = n := by simp [mks]
theorem mks_app (f : Nat → Value) (n m : Nat) : mks f (n + m) = mks f n ++ (List.range m).map (fun j => f (n + j)) := by
  unfold mks
  rw [List.range_add, List.map_append, List.map_map]
  rfl

/-- An elder slice reads as it did, behind an append of marks onto v. -/
theorem rdM_app {w w2 : World} {B : Nat} {e : TypeId} {sz : Nat} {u v v2 : Value} {k N : Nat} {f : Nat → Value} (h : RdM w e sz u k f) (hk : k ≤ N) (ho : w2.ownsRow B e sz v2 N (mks f (N * sz))) (hg : w.grownBy w2 v.ownBlock) (hor : v2.ownBlock = v.ownBlock ∨ w.grownBy w2 none) : RdM w2 e sz u k f := by
  obtain ⟨a, c, rfl, h1, h2, h⟩ := h
  refine ⟨a, c, rfl, h1, h2, h.imp id ?_⟩
  rintro ⟨g, C, rfl, hgb, hc⟩
  have hlt : g < w.heap.size := (Array.getElem?_eq_some_iff.1 hgb).1
  by_cases hs : w2.heap[g]? = w.heap[g]?
  · exact ⟨g, C, rfl, hs.trans hgb, fun j hj => by rw [World.cell?_of_block (w := w) (a := ⟨g, j, none⟩) hs]; exact hc j hj⟩
  · have hv : some g = v.ownBlock := by
      apply Classical.byContradiction
      intro q
      exact hs (hg.block g hlt q)
    have hv2 : v2.ownBlock = some g := by
      rcases hor with q | q
      · rw [q, hv]
      · exact absurd (q.block g hlt (by simp)) hs
    have hcells := fun g' hg' => ho.cells (g := g') hg'
    rcases ho.2 with ⟨rfl, _⟩ | ⟨g2, cap2, cur2, rfl, _, hg2, _⟩
    · simp [Value.ownBlock] at hv2
    · simp [Value.ownBlock] at hv2
      subst hv2
      refine ⟨g2, cur2, rfl, hg2, fun j hj => ?_⟩
      have hjN : j < N * sz := Nat.lt_of_lt_of_le hj (Nat.mul_le_mul_right _ hk)
      have := hcells g2 rfl j (f j) (by simp [mks, hjN])
      rwa [show (⟨g2, 0, none⟩ : Addr).add j = ⟨g2, j, none⟩ from by unfold Addr.add; split <;> simp_all] at this

theorem mks_own {w : World} {B : Nat} {e : TypeId} {sz : Nat} {v : Value} {n : Nat} {f : Nat → Value} (h : w.ownsRow B e sz v n (mks f (n * sz))) : RdM w e sz v n f := rdM_own h

/-- A cell of another kind of block is written. -/
theorem rdM_set {w : World} {e e' : TypeId} {sz : Nat} {u : Value} {k : Nat} {f : Nat → Value} {xb o : Nat} {C : Array Value} {fr : Nat × Nat} {y : Value} (h : RdM w e sz u k f) (hx : w.heap[xb]? = some (Obj.cells C e' fr)) (hne : e' ≠ e) : RdM (w.setCell ⟨xb, o, none⟩ y) e sz u k f := by
  refine h.keep fun g D hg => ?_
  refine set_other (fun q => ?_)
  subst q
  rw [hx] at hg
  injection hg with hg
  injection hg with _ hg _
  exact hne hg

theorem own_set_other {w : World} {B : Nat} {e e' : TypeId} {sz : Nat} {v : Value} {n : Nat} {xs : List Value} {xb o : Nat} {C : Array Value} {fr : Nat × Nat} {y : Value} (h : w.ownsRow B e sz v n xs) (hx : w.heap[xb]? = some (Obj.cells C e' fr)) (hne : e' ≠ e) : (w.setCell ⟨xb, o, none⟩ y).ownsRow B e sz v n xs := by
  refine ⟨h.1, h.2.imp id ?_⟩
  rintro ⟨g, cap, cur, hv, h1, hg, h2⟩
  refine ⟨g, cap, cur, hv, h1, ?_, h2⟩
  rw [set_other (fun q => ?_)]
  · exact hg
  · subst q
    rw [hx] at hg
    injection hg with hg
    injection hg with _ hg _
    exact hne hg

/-- A cell of an owned row is written. -/
theorem own_store {w : World} {B : Nat} {e : TypeId} {sz : Nat} {g n cap : Nat} {xs : List Value} {i : Nat} {y : Value} (h : w.ownsRow B e sz (.slice (some ⟨g, 0, none⟩) n cap) n xs) (_hi : i < n * sz) : (w.setCell ⟨g, i, none⟩ y).ownsRow B e sz (.slice (some ⟨g, 0, none⟩) n cap) n (xs.set i y) := by
  rcases h.2 with ⟨q, _⟩ | ⟨g', cap', cur, hv, h1, hg, h2, h3, h4, h5⟩
  · cases q
  · cases hv
    refine ⟨by rw [List.length_set]; exact h.1, .inr ⟨g, cap, cur.setIfInBounds i y, rfl, h1, ?_, h2, h3, by rw [Array.size_setIfInBounds]; exact h4, ?_⟩⟩
    · simp [World.setCell, Array.getElem?_modify, hg]
    · rw [Array.toList_setIfInBounds, List.take_set, h5]
theorem own_at {w : World} {B : Nat} {e : TypeId} {sz : Nat} {g n cap : Nat} {xs : List Value} {i : Nat} (h : w.ownsRow B e sz (.slice (some ⟨g, 0, none⟩) n cap) n xs) (hi : i < n * sz) : (∃ y, w.cell? ⟨g, i, none⟩ = some y) ∧ w.frozen? ⟨g, i, none⟩ = false := by
  have hc := h.cells (g := g) rfl i (xs[i]'(by rw [h.1]; exact hi)) (by simp)
  rw [show (⟨g, 0, none⟩ : Addr).add i = ⟨g, i, none⟩ from by unfold Addr.add; split <;> simp_all] at hc
  refine ⟨⟨_, hc⟩, ?_⟩
  rcases h.2 with ⟨q, _⟩ | ⟨g', cap', cur, hv, h1, hg, _⟩
  · cases q
  · cases hv
    simp [World.frozen?, hg]
theorem own_ge {w : World} {B : Nat} {e : TypeId} {sz : Nat} {g n cap : Nat} {xs : List Value} (h : w.ownsRow B e sz (.slice (some ⟨g, 0, none⟩) n cap) n xs) : B ≤ g ∧ g < w.heap.size ∧ n ≤ cap ∧ cap ≤ maxLen ∧ ∃ C, w.heap[g]? = some (Obj.cells C e (0, 0)) := by
  rcases h.2 with ⟨q, _⟩ | ⟨g', cap', cur, hv, h1, hg, h2, h3, _⟩
  · cases q
  · cases hv
    exact ⟨h1, (Array.getElem?_eq_some_iff.1 hg).1, h2, h3, cur, hg⟩
end Go.Proofs.YtkncboinfcnklaaGreatDoor
