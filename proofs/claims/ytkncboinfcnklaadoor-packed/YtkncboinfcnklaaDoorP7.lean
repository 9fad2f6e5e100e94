import Derived.Test.YtkncboinfcnklaaDoorP6
namespace Go.Proofs.YtkncboinfcnklaaDoor
open Go.RowKit Go.Deep Go.Proofs.YtkncboinfcnklaaDoor.Mth

/-- The words of each entry. -/
def ws (l : List Ent) : List (List ByteArray) := l.map (fun e => wd e.text)
def mw (l : List Ent) : List ByteArray := mergedS (ws l).flatten
/-- The words, and the entries that have them. -/
def idxGo : List ByteArray → List (List ByteArray) → List Int
  | [], _ => []
  | x :: xs, Ls => ((((x.size : Int) % 256) :: tb x) ++ ((((havTo Ls x Ls.length).length : Int) % 256) :: havTo Ls x Ls.length)) ++ idxGo xs (rstTo Ls x Ls.length)
def idx (l : List Ent) : List Int := num (mw l).length 2 ++ idxGo (mw l) (ws l)

theorem flat_bd : ∀ (l : List Ent), (∀ e ∈ l, e.text.size ≤ 60) → (ws l).flatten.length ≤ 61 * l.length
  | [], _ => by simp [ws]
  | e :: l, h => by
    have h1 := flat_bd l (fun x hx => h x (by simp [hx]))
    have h2 := wd_len e.text
    have h3 := h e (by simp)
    simp only [ws, List.map_cons, List.flatten_cons, List.length_append, List.length_cons] at h1 ⊢
    omega
theorem mw_len (l : List Ent) (h : ∀ e ∈ l, e.text.size ≤ 60) : (mw l).length ≤ 61 * l.length := Nat.le_trans (mergedS_len _) (flat_bd l h)
theorem mw_size (l : List Ent) (h : ∀ e ∈ l, e.text.size ≤ 60) {x : ByteArray} (hx : x ∈ mw l) : x.size ≤ 60 := by
  have h1 := ((mergedS_up _).2 x).1 hx
  obtain ⟨L, hL, h2⟩ := List.mem_flatten.1 h1
  obtain ⟨e, he, rfl⟩ := List.mem_map.1 hL
  exact Nat.le_trans (wd_size e.text h2) (h e he)

theorem idxGo_bts : ∀ (xs : List ByteArray) (Ls : List (List ByteArray)), Ls.length ≤ 64 → Bts (idxGo xs Ls)
  | [], _, _ => bts_nil
  | x :: xs, Ls, h => by
    refine bts_append (bts_append ?_ ?_) (idxGo_bts xs _ (by rw [rstTo_len]; exact h))
    · exact bts_append (a := [_]) (bts_one (by omega) (by omega)) (tb_bts x)
    · exact bts_append (a := [_]) (bts_one (by omega) (by omega)) (havTo_bts _ _ _ (by omega))
theorem idx_bts (l : List Ent) (h : l.length ≤ 64) : Bts (idx l) := bts_append (num_bts _ _) (idxGo_bts _ _ (by simpa [ws] using h))

/-! ### the lists, laid down one by one -/
def lsTo (l : List Ent) (k : Nat) : List (List ByteArray) := (List.range l.length).map (fun i => if i < k then wd (l.getD i e0).text else [])
theorem lsTo_len (l : List Ent) (k : Nat) : (lsTo l k).length = l.length := by simp [lsTo]
theorem lsTo_get {l : List Ent} {k i : Nat} (h : i < l.length) : (lsTo l k).getD i [] = if i < k then wd (l.getD i e0).text else [] := by simp [lsTo, List.getD, h]
theorem lsTo_full (l : List Ent) : lsTo l l.length = ws l := by
  apply List.ext_getElem
  · simp [lsTo, ws]
  · intro i h1 h2
    simp [lsTo] at h1
    simp [lsTo, ws, List.getD, h1]

theorem rdT_nil (w : World) : RdT w (.slice none 0 0) [] := ⟨⟨none, 0, rfl, Nat.le_refl _, by unfold maxLen; omega, fun _ => rfl, Or.inl rfl⟩, fun _ _ _ _ e => by cases e⟩

theorem LB.below {w w' : World} {lb : Nat} {Ls : List (List ByteArray)} (h : LB w lb Ls) (hb : Below w.heap.size w w') : LB w' lb Ls := by
  obtain ⟨C, h1, h2, h3⟩ := h
  refine ⟨C, by rw [hb.block lb (Array.getElem?_eq_some_iff.1 h1).1]; exact h1, h2, fun i hi => ?_⟩
  obtain ⟨vi, e, hr⟩ := h3 i hi
  exact ⟨vi, e, hr.below hb⟩
theorem LB.keep5 {w w' : World} {lb : Nat} {Ls : List (List ByteArray)} (h : LB w lb Ls) (hk : Keep5 w w') : LB w' lb Ls := by
  obtain ⟨C, h1, h2, h3⟩ := h
  refine ⟨C, hk _ _ _ _ (by decide) h1, h2, fun i hi => ?_⟩
  obtain ⟨vi, e, hr⟩ := h3 i hi
  exact ⟨vi, e, hr.keep5 hk⟩
theorem LB.put {w : World} {lb : Nat} {Ls Ms : List (List ByteArray)} {k : Nat} {u : Value} (h : LB w lb Ls) (hM : Ms.length = Ls.length) (hu : RdT w u (Ms.getD k [])) (ho : ∀ i, i < Ls.length → i ≠ k → Ms.getD i [] = Ls.getD i []) : LB (w.setCell ⟨lb, k, none⟩ u) lb Ms := by
  have h2 : LB2 w (w.setCell ⟨lb, k, none⟩ u) lb Ms := LB2.put (wr := w) h hM hu ho
  exact LB2.out h h2 (grown_put ⟨rfl, rfl, rfl, Nat.le_refl _, fun _ _ _ => rfl⟩)
theorem LB.at {w : World} {lb : Nat} {Ls : List (List ByteArray)} (h : LB w lb Ls) (i : Nat) (hi : i < Ls.length) : (∃ vi, w.cell? ⟨lb, i, none⟩ = some vi) ∧ w.frozen? ⟨lb, i, none⟩ = false := by
  obtain ⟨vi, h1, h2, _⟩ := LB2.at (wr := w) h i hi
  exact ⟨⟨vi, h1⟩, h2⟩
theorem LB.rdL {w : World} {lb : Nat} {Ls : List (List ByteArray)} (h : LB w lb Ls) (hm : Ls.length ≤ 64) : RdL w (.slice (some ⟨lb, 0, none⟩) Ls.length Ls.length) Ls := by
  refine ⟨_, Ls.length, rfl, Nat.le_refl _, by unfold maxLen; omega, Or.inr ⟨lb, 0, rfl, fun i hi => ?_⟩⟩
  obtain ⟨vi, h1, h2, h3⟩ := LB2.at (wr := w) h i hi
  exact ⟨vi, by simpa using h1, h3.1⟩
/-- The lists as they are made. -/
theorem lb_new (w : World) (l : List Ent) (C : Array Value) (hC : C = Array.replicate l.length (Value.slice none 0 0)) : LB (w.alloc (.cells C 45)) w.heap.size (lsTo l 0) := by
  refine ⟨C, ?_, by rw [hC, lsTo_len]; simp, fun i hi => ?_⟩
  · show (w.heap.push _)[w.heap.size]? = _
    rw [Array.getElem?_push, if_pos rfl]
  · rw [lsTo_len] at hi
    refine ⟨.slice none 0 0, by rw [hC]; simp [hi], ?_⟩
    rw [lsTo_get hi, if_neg (by omega)]
    exact rdT_nil _

theorem own_ne_lb {w : World} {lb B n : Nat} {v : Value} {xs : List Value} {Ls : List (List ByteArray)} (h : LB w lb Ls) (ho : w.ownsRow B 5 1 v n xs) : v.ownBlock = none ∨ v.ownBlock ≠ some lb := by
  rcases ho.2 with ⟨h0, _⟩ | ⟨g, cap, cur, hv, _, hg, _⟩
  · subst h0; exact Or.inl rfl
  · refine Or.inr fun e => ?_
    subst hv
    simp [Value.ownBlock] at e
    subst e
    obtain ⟨C, h1, _⟩ := h
    rw [hg] at h1
    injection h1 with h1
    injection h1 with _ h1 _
    exact absurd h1 (by decide)

theorem own_cases {w : World} {B : Nat} {v : Value} {l : List Int} (h : w.ownsRow B 5 1 v l.length (l.map eB)) : (v = .slice none 0 0 ∧ l = []) ∨ ∃ ad c, v = .slice (some ad) l.length c ∧ (∀ j u, (l.map eB)[j]? = some u → w.cell? (ad.add j) = some u) ∧ l.length ≤ c ∧ c ≤ maxLen := by
  have hc := fun g hg => h.cells (g := g) hg
  rcases h.2 with ⟨h0, h1⟩ | ⟨g, cap, cur, hv, _, hg, h1, h2, _⟩
  · exact Or.inl ⟨h0, List.length_eq_zero_iff.1 h1⟩
  · refine Or.inr ⟨⟨g, 0, none⟩, cap, hv, ?_, h1, h2⟩
    exact hc g (by rw [hv]; rfl)

theorem rd_get {w : World} {a : Option Addr} {n c : Nat} {l : List ByteArray} (h : Rd w (.slice a n c) l) (j : Nat) (hj : j < l.length) : ∃ b o, a = some ⟨b, o, none⟩ ∧ w.cell? ⟨b, o + j, none⟩ = some (.string (l.getD j ByteArray.empty)) := by
  obtain ⟨a', c', e, hc, hm, _, h⟩ := h
  injection e with e1 e2 e3
  rcases h with h | ⟨b, o, e4, h⟩
  · subst h; simp at hj
  · exact ⟨b, o, e1.trans e4, h j hj⟩

theorem idx_drop {W : List ByteArray} {k : Nat} (h : k < W.length) (Ls : List (List ByteArray)) : idxGo (W.drop k) Ls = (((((W.getD k ByteArray.empty).size : Int) % 256) :: tb (W.getD k ByteArray.empty)) ++ ((((havTo Ls (W.getD k ByteArray.empty) Ls.length).length : Int) % 256) :: havTo Ls (W.getD k ByteArray.empty) Ls.length)) ++ idxGo (W.drop (k + 1)) (rstTo Ls (W.getD k ByteArray.empty) Ls.length) := by
  rw [List.drop_eq_getElem_cons h]
  simp [idxGo, List.getD, h]
end Go.Proofs.YtkncboinfcnklaaDoor
