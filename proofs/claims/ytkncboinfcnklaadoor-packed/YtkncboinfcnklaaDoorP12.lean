import Derived.Test.YtkncboinfcnklaaDoorP11
namespace Go.Proofs.YtkncboinfcnklaaDoor
open Go.RowKit Go.Deep Go.Proofs.YtkncboinfcnklaaDoor.Mth

theorem Tryd.info31 : (Tryd.prog.info? 31).map (fun i => (i.zero, i.size, i.bytes)) = some (some (.agg #[.int .i64 0, .int .i64 0, .string ByteArray.empty]), 3, 32) := by kernel_rfl

/-! ### entries, one after the other -/
def rests : Nat → List Int → List Int
  | 0, b => b
  | k + 1, b => rests k (rdRest b)
theorem rests_succ : ∀ (k : Nat) (b : List Int), rests (k + 1) b = rdRest (rests k b)
  | 0, _ => rfl
  | k + 1, b => by rw [rests, rests_succ k (rdRest b)]; rfl
theorem rdEnts_succ : ∀ (k : Nat) (b : List Int), rdEnts (k + 1) b = rdEnts k b ++ [rdEnt (rests k b)]
  | 0, _ => rfl
  | k + 1, b => by rw [rdEnts, rdEnts_succ k (rdRest b)]; rfl
theorem rdEnts_len : ∀ (k : Nat) (b : List Int), (rdEnts k b).length = k
  | 0, _ => rfl
  | k + 1, b => by rw [rdEnts, List.length_cons, rdEnts_len]
theorem bts_rest {b : List Int} (h : Bts b) : Bts (rdRest b) := bts_drop (bts_drop (bts_drop h 16) 1) _
theorem bts_rests : ∀ (k : Nat) {b : List Int}, Bts b → Bts (rests k b)
  | 0, _, h => h
  | k + 1, _, h => bts_rests k (bts_rest h)

abbrev eC (e : Ent) : List Value := [.int .i64 e.seq, .int .i64 e.time, .string e.text]
/-- A row of entries of the call's own. -/
def CurE (w0 w : World) (v : Value) (l : List Ent) : Prop := Below w0.heap.size w0 w ∧ w.ownsRow w0.heap.size 31 3 v l.length (l.flatMap eC)

theorem flat_len : ∀ l : List Ent, (l.flatMap eC).length = 3 * l.length
  | [] => rfl
  | e :: l => by rw [List.flatMap_cons, List.length_append, flat_len l]; simp; omega
theorem flat_get : ∀ (l : List Ent) (j : Nat), j < l.length → (l.flatMap eC)[j * 3]? = some (.int .i64 (l.getD j e0).seq) ∧ (l.flatMap eC)[j * 3 + 1]? = some (.int .i64 (l.getD j e0).time) ∧ (l.flatMap eC)[j * 3 + 2]? = some (.string (l.getD j e0).text)
  | [], _, h => by simp at h
  | e :: l, 0, _ => by simp [List.flatMap_cons]
  | e :: l, j + 1, h => by
    have := flat_get l j (by simpa using h)
    rw [List.flatMap_cons, show (j + 1) * 3 = (eC e).length + j * 3 by simp; omega, show (eC e).length + j * 3 + 1 = (eC e).length + (j * 3 + 1) by omega, show (eC e).length + j * 3 + 2 = (eC e).length + (j * 3 + 2) by omega]
    rw [List.getElem?_append_right (by omega), List.getElem?_append_right (by omega), List.getElem?_append_right (by omega)]
    simp only [Nat.add_sub_cancel_left]
    simpa [List.getD] using this

theorem rdE_own {w : World} {B : Nat} {v : Value} {l : List Ent} (h : w.ownsRow B 31 3 v l.length (l.flatMap eC)) : RdE w v l := by
  have hc := fun g hg => h.cells (g := g) hg
  rcases h.2 with ⟨h0, h1⟩ | ⟨g, cap, cur, hv, _, hg, h1, h2, _⟩
  · have := List.length_eq_zero_iff.1 h1
    subst this
    exact ⟨none, 0, h0, Nat.le_refl _, by unfold maxLen; omega, Or.inl rfl⟩
  · refine ⟨_, cap, hv, h1, h2, Or.inr ⟨g, 0, rfl, fun j hj => ?_⟩⟩
    have hh := hc g (by rw [hv]; rfl)
    obtain ⟨q0, q1, q2⟩ := flat_get l j hj
    have hadd : ∀ i, (⟨g, 0, none⟩ : Addr).add i = ⟨g, 0 + i, none⟩ := fun i => by unfold Addr.add; split <;> simp_all
    exact ⟨by have := hh _ _ q0; rwa [hadd] at this, by have := hh _ _ q1; rwa [hadd] at this, by have := hh _ _ q2; rwa [hadd] at this⟩

theorem curE_append {w0 w w2 : World} {v v2 : Value} {o : Obj} {l : List Ent} {e : Ent} (h : CurE w0 w v l) (h2 : w2.ownsRow w0.heap.size 31 3 v2 (l.length + 1) (l.flatMap eC ++ eC e)) (hg : (w.alloc o).grownBy w2 v.ownBlock) : CurE w0 w2 v2 (l ++ [e]) := by
  refine ⟨?_, by simpa [List.flatMap_append] using h2⟩
  refine (h.1.trans ((below_alloc w o).mono h.1.size)).grown hg (by have := h.1.size; simp; omega) ?_
  intro k hk
  exact (h.2.lt k hk).1

theorem cell_three_new (w : World) (x y z : Value) (t : TypeId) : ∀ j u, [x, y, z][j]? = some u → (w.alloc (.cells #[x, y, z] t)).cell? ((⟨w.heap.size, 0, none⟩ : Addr).add j) = some u := by
  intro j u hj
  have hadd : (⟨w.heap.size, 0, none⟩ : Addr).add j = ⟨w.heap.size, j, none⟩ := by unfold Addr.add; split <;> simp_all
  have hb : (w.alloc (.cells #[x, y, z] t)).heap[w.heap.size]? = some (.cells #[x, y, z] t (0, 0)) := by
    show (w.heap.push _)[w.heap.size]? = _
    rw [Array.getElem?_push, if_pos rfl]
  rw [hadd]
  simp only [World.cell?, hb]
  simpa using hj

theorem rdr_new {w : World} {v : Value} {l : List Int} (h : RdB w v l) : Rdr (w.alloc (.cells #[v] 50)) w.heap.size w.heap.size l := by
  refine ⟨v, ?_, h.below (below_alloc w _), ?_⟩
  · show (w.heap.push _)[w.heap.size]? = _
    rw [Array.getElem?_push, if_pos rfl]
  · obtain ⟨a, c, rfl, _, _, h⟩ := h
    rcases h with h | ⟨b, o, rfl, h⟩
    · exact Or.inl h
    · by_cases q : l = []
      · exact Or.inl q
      · refine Or.inr fun a' n' c' e => ?_
        injection e with e _ _
        injection e with e
        subst e
        exact World.block_lt_of_cell? _ _ (h 0 (List.length_pos_iff.2 q))

theorem rdr_append {w0 w w2 : World} {v : Value} {r n : Nat} {o : Obj} {l : List Int} {xs : List Value} (h : Rdr w r w0.heap.size l) (ho : w.ownsRow w0.heap.size 31 3 v n xs) (hg : (w.alloc o).grownBy w2 v.ownBlock) (hs : w0.heap.size ≤ w.heap.size) : Rdr w2 r w0.heap.size l := by
  obtain ⟨vl, h1, h2, h3⟩ := h
  have hk : ∀ k, k < w.heap.size → v.ownBlock ≠ some k → w2.heap[k]? = w.heap[k]? := fun k hk hne => by
    rw [hg.block k (by simp; omega) (fun e => hne e.symm), Below.heap_alloc w o k hk]
  refine ⟨vl, ?_, ?_, h3⟩
  · rw [hk r (Array.getElem?_eq_some_iff.1 h1).1 ?_]
    · exact h1
    · intro e
      rcases ho.2 with ⟨h0, _⟩ | ⟨g, cap, cur, hv, _, hgg, _⟩
      · subst h0; simp [Value.ownBlock] at e
      · subst hv
        simp [Value.ownBlock] at e
        subst e
        rw [hgg] at h1
        injection h1 with h1
        injection h1 with _ h1 _
        exact absurd h1 (by decide)
  · obtain ⟨a, c, rfl, hc, hm, h⟩ := h2
    refine ⟨a, c, rfl, hc, hm, ?_⟩
    rcases h with h | ⟨b, o', rfl, h⟩
    · exact Or.inl h
    · rcases h3 with h3 | h3
      · exact Or.inl h3
      · have hlt := h3 _ _ _ rfl
        refine Or.inr ⟨b, o', rfl, fun j hj => ?_⟩
        rw [World.cell?_of_block (w := w) (a := ⟨b, o' + j, none⟩) (hk b (by simp at hlt; omega) ?_)]
        · exact h j hj
        · intro e
          have := (ho.lt b e).1
          simp at hlt
          omega

theorem curE_reader {w0 w w' : World} {v : Value} {r : Nat} {l : List Ent} {m : List Int} (h : CurE w0 w v l) (hr : Rdr w r w0.heap.size m) (h0 : w0.heap.size ≤ r) (hg : w.grownBy w' (some r)) : CurE w0 w' v l := by
  refine ⟨h.1.grown hg h.1.size (fun k e => by injection e with e; omega), h.2.kept hg ?_⟩
  rcases h.2.2 with ⟨h0, _⟩ | ⟨g, cap, cur, hv, _, hgg, _⟩
  · subst h0; exact Or.inl rfl
  · refine Or.inr fun e => ?_
    subst hv
    simp [Value.ownBlock] at e
    subst e
    obtain ⟨vl, h1, _⟩ := hr
    rw [hgg] at h1
    injection h1 with h1
    injection h1 with _ h1 _
    exact absurd h1 (by decide)
end Go.Proofs.YtkncboinfcnklaaDoor
