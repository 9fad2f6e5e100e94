import Derived.Test.YtkncboinfcnklaaDoorP5
namespace Go.Proofs.YtkncboinfcnklaaDoor
open Go.RowKit Go.Deep Go.Proofs.YtkncboinfcnklaaDoor.Mth

/-- The lists of words, in one block. -/
def LB (w : World) (lb : Nat) (Ls : List (List ByteArray)) : Prop :=
  ∃ C : Array Value, w.heap[lb]? = some (Obj.cells C 45 (0, 0)) ∧ C.size = Ls.length ∧ ∀ i, i < Ls.length → ∃ vi, C[i]? = some vi ∧ RdT w vi (Ls.getD i [])

def hv (Ls : List (List ByteArray)) (x : ByteArray) (i : Nat) : Bool := decide ((Ls.getD i []).head? = some x)
def havTo (Ls : List (List ByteArray)) (x : ByteArray) (k : Nat) : List Int := ((List.range k).filter (hv Ls x)).map (fun i : Nat => (i : Int))
def rstTo (Ls : List (List ByteArray)) (x : ByteArray) (k : Nat) : List (List ByteArray) := (List.range Ls.length).map (fun i => if i < k ∧ hv Ls x i = true then (Ls.getD i []).tail else Ls.getD i [])

theorem rstTo_len (Ls : List (List ByteArray)) (x : ByteArray) (k : Nat) : (rstTo Ls x k).length = Ls.length := by simp [rstTo]
theorem rstTo_get {Ls : List (List ByteArray)} {x : ByteArray} {k i : Nat} (h : i < Ls.length) : (rstTo Ls x k).getD i [] = if i < k ∧ hv Ls x i = true then (Ls.getD i []).tail else Ls.getD i [] := by
  simp [rstTo, List.getD, h]
theorem rstTo_zero (Ls : List (List ByteArray)) (x : ByteArray) : rstTo Ls x 0 = Ls := by
  apply List.ext_getElem
  · simp [rstTo]
  · intro i h1 h2
    simp [rstTo, List.getD, h2]
theorem havTo_succ (Ls : List (List ByteArray)) (x : ByteArray) (k : Nat) : havTo Ls x (k + 1) = havTo Ls x k ++ (if hv Ls x k = true then [(k : Int)] else []) := by
  unfold havTo
  rw [List.range_succ, List.filter_append, List.map_append]
  by_cases c : hv Ls x k = true <;> simp [c]
theorem havTo_len (Ls : List (List ByteArray)) (x : ByteArray) (k : Nat) : (havTo Ls x k).length ≤ k := by
  unfold havTo
  rw [List.length_map]
  exact Nat.le_trans (List.length_filter_le _ _) (by simp)
theorem havTo_bts (Ls : List (List ByteArray)) (x : ByteArray) (k : Nat) (hk : k ≤ 256) : Bts (havTo Ls x k) := by
  intro y hy
  unfold havTo at hy
  obtain ⟨i, hi, rfl⟩ := List.mem_map.1 hy
  have := List.mem_range.1 (List.mem_filter.1 hi).1
  omega

/-- A cell of a text lies in no block of lists. -/
theorem rd_kept {w w' : World} {lb : Nat} {C : Array Value} {v : Value} {l : List ByteArray} (hC : w.heap[lb]? = some (Obj.cells C 45 (0, 0))) (hsl : ∀ (i : Nat) (u : Value), C[i]? = some u → ∃ a n c, u = Value.slice a n c) (h : RdT w v l) (hb : ∀ k, k < w.heap.size → k ≠ lb → w'.heap[k]? = w.heap[k]?) : RdT w' v l := by
  obtain ⟨h, hT⟩ := h
  refine ⟨?_, fun g o n c e => by
    obtain ⟨C', h'⟩ := hT g o n c e
    refine ⟨C', ?_⟩
    rw [hb g (Array.getElem?_eq_some_iff.1 h').1 ?_]
    · exact h'
    · rintro rfl
      rw [hC] at h'
      injection h' with h'
      injection h' with _ h' _
      exact absurd h' (by decide)⟩
  obtain ⟨a, c, rfl, hc, hm, hz, h⟩ := h
  refine ⟨a, c, rfl, hc, hm, hz, ?_⟩
  rcases h with h | ⟨b, o, rfl, h⟩
  · exact Or.inl h
  · refine Or.inr ⟨b, o, rfl, fun j hj => ?_⟩
    have h1 := h j hj
    have hne : b ≠ lb := by
      rintro rfl
      simp only [World.cell?, hC] at h1
      simp at h1
      obtain ⟨_, _, _, e⟩ := hsl _ _ h1
      cases e
    rw [World.cell?_of_block (w := w) (a := ⟨b, o + j, none⟩) (hb b (World.block_lt_of_cell? _ _ h1) hne)]
    exact h1

theorem LB.slices {w : World} {lb : Nat} {Ls : List (List ByteArray)} (h : LB w lb Ls) : ∃ C : Array Value, w.heap[lb]? = some (Obj.cells C 45 (0, 0)) ∧ C.size = Ls.length ∧ (∀ i, i < Ls.length → ∃ vi, C[i]? = some vi ∧ RdT w vi (Ls.getD i [])) ∧ ∀ (i : Nat) (u : Value), C[i]? = some u → ∃ a n c, u = Value.slice a n c := by
  obtain ⟨C, h1, h2, h3⟩ := h
  refine ⟨C, h1, h2, h3, fun i u hu => ?_⟩
  have hi : i < Ls.length := by rw [← h2]; exact (Array.getElem?_eq_some_iff.1 hu).1
  obtain ⟨vi, e, hr⟩ := h3 i hi
  rw [hu] at e
  injection e with e
  obtain ⟨a, c, rfl, _⟩ := rd_len hr.1
  exact ⟨a, _, c, e⟩

/-- The block of lists as it stands now; what the lists hold was there at first. -/
def LB2 (w wr : World) (lb : Nat) (Ls : List (List ByteArray)) : Prop :=
  ∃ C : Array Value, wr.heap[lb]? = some (Obj.cells C 45 (0, 0)) ∧ C.size = Ls.length ∧ ∀ i, i < Ls.length → ∃ vi, C[i]? = some vi ∧ RdT w vi (Ls.getD i [])

theorem LB2.at {w wr : World} {lb : Nat} {Ls : List (List ByteArray)} (h : LB2 w wr lb Ls) (i : Nat) (hi : i < Ls.length) : ∃ vi, wr.cell? ⟨lb, i, none⟩ = some vi ∧ wr.frozen? ⟨lb, i, none⟩ = false ∧ RdT w vi (Ls.getD i []) := by
  obtain ⟨C, h1, h2, h3⟩ := h
  obtain ⟨vi, e, hr⟩ := h3 i hi
  refine ⟨vi, ?_, ?_, hr⟩
  · simp only [World.cell?, h1]; simpa using e
  · simp [World.frozen?, h1]

theorem LB2.put {w wr : World} {lb : Nat} {Ls Ms : List (List ByteArray)} {k : Nat} {u : Value} (h : LB2 w wr lb Ls) (hM : Ms.length = Ls.length) (hu : RdT w u (Ms.getD k [])) (ho : ∀ i, i < Ls.length → i ≠ k → Ms.getD i [] = Ls.getD i []) : LB2 w (wr.setCell ⟨lb, k, none⟩ u) lb Ms := by
  obtain ⟨C, h1, h2, h3⟩ := h
  have hlb : (wr.setCell ⟨lb, k, none⟩ u).heap[lb]? = some (Obj.cells (C.setIfInBounds k u) 45 (0, 0)) := by
    simp [World.setCell, Array.getElem?_modify, h1]
  refine ⟨C.setIfInBounds k u, hlb, by simp [h2, hM], fun i hi => ?_⟩
  rw [hM] at hi
  by_cases c : i = k
  · subst c
    exact ⟨u, by simp [h2, hi], hu⟩
  · obtain ⟨vi, e, hr⟩ := h3 i hi
    refine ⟨vi, ?_, ?_⟩
    · rw [Array.getElem?_setIfInBounds_ne (by omega)]; exact e
    · rw [ho i hi c]; exact hr

theorem LB2.out {w wr : World} {lb : Nat} {Ls Ms : List (List ByteArray)} (h0 : LB w lb Ms) (h : LB2 w wr lb Ls) (hg : w.grownBy wr (some lb)) : LB wr lb Ls := by
  obtain ⟨C0, g1, g2, g3, g4⟩ := h0.slices
  obtain ⟨C, h1, h2, h3⟩ := h
  exact ⟨C, h1, h2, fun i hi => by
    obtain ⟨vi, e, hr⟩ := h3 i hi
    exact ⟨vi, e, rd_kept g1 g4 hr (fun k hk hne => hg.block k hk (by intro e; injection e with e; exact hne e))⟩⟩

theorem rd_now {w wr : World} {lb : Nat} {Ms : List (List ByteArray)} {v : Value} {l : List ByteArray} (h0 : LB w lb Ms) (hr : RdT w v l) (hg : w.grownBy wr (some lb)) : RdT wr v l := by
  obtain ⟨C0, g1, g2, g3, g4⟩ := h0.slices
  exact rd_kept g1 g4 hr (fun k hk hne => hg.block k hk (by intro e; injection e with e; exact hne e))

theorem rstTo_no {Ls : List (List ByteArray)} {x : ByteArray} {k : Nat} (h : hv Ls x k = false) : rstTo Ls x (k + 1) = rstTo Ls x k := by
  unfold rstTo
  apply List.map_congr_left
  intro i _
  by_cases c : i = k
  · subst c; simp [h]
  · have e : (i < k + 1) ↔ (i < k) := by omega
    simp [e]

/-- An append to a row of the call's own: the rest of old memory. -/
theorem grown_own {w wr w3 : World} {lb : Nat} {v : Value} {o : Obj} {n : Nat} {xs : List Value} (hg : w.grownBy wr (some lb)) (ho : wr.ownsRow w.heap.size 5 1 v n xs) (h3 : (wr.alloc o).grownBy w3 v.ownBlock) : w.grownBy w3 (some lb) ∧ ∀ k, k < w.heap.size → w3.heap[k]? = wr.heap[k]? := by
  have hk : ∀ k, k < w.heap.size → w3.heap[k]? = wr.heap[k]? := fun k hk => by
    have hs := hg.size
    rw [h3.block k (by simp; omega) ?_, Below.heap_alloc wr o k (by omega)]
    intro e
    rcases ho.2 with ⟨h0, _⟩ | ⟨g, cap, cur, hv, hb, _⟩
    · subst h0; simp [Value.ownBlock] at e
    · subst hv; simp [Value.ownBlock] at e; omega
  refine ⟨⟨h3.os.trans hg.os, h3.tape.trans hg.tape, h3.output.trans hg.output, ?_, fun k hk' hne => (hk k hk').trans (hg.block k hk' hne)⟩, hk⟩
  have h1 := h3.size
  have h2 := hg.size
  simp at h1
  omega

theorem grown_put {w w3 : World} {lb k : Nat} {u : Value} (h : w.grownBy w3 (some lb)) : w.grownBy (w3.setCell ⟨lb, k, none⟩ u) (some lb) := by
  refine ⟨h.os, h.tape, h.output, by have := h.size; simpa [World.setCell] using this, fun j hj hne => ?_⟩
  rw [← h.block j hj hne]
  have : j ≠ lb := fun e => hne (by rw [e])
  simp [World.setCell, Array.getElem?_modify]
  intro e; exact absurd e.symm this

theorem LB2.keep {w wr w3 : World} {lb : Nat} {Ls : List (List ByteArray)} (h : LB2 w wr lb Ls) (hk : w3.heap[lb]? = wr.heap[lb]?) : LB2 w w3 lb Ls := by
  obtain ⟨C, h1, h2, h3⟩ := h
  exact ⟨C, hk.trans h1, h2, h3⟩

theorem own_put {w3 : World} {b0 ti z lb k n : Nat} {u v : Value} {xs : List Value} (hlb : lb < b0) (h : w3.ownsRow b0 ti z v n xs) : (w3.setCell ⟨lb, k, none⟩ u).ownsRow b0 ti z v n xs := by
  exact ownsRow_setCell_below h hlb u

set_option maxRecDepth 100000 in
set_option maxHeartbeats 1000000 in
theorem takeFirst_any (lb n c : Nat) (Ls : List (List ByteArray)) (x : ByteArray) (w : World) (h : LB w lb Ls) (hn : Ls.length = n) (hnc : n ≤ c) (h64 : n ≤ 64) :
    Calls Tryd.prog 20 #[.slice (some ⟨lb, 0, none⟩) n c, .string x] w fun e w' => ∃ v', e = .returned v' ∧ w.grownBy w' (some lb) ∧ LB w' lb (rstTo Ls x n) ∧ w'.ownsRow w.heap.size 5 1 v' (havTo Ls x n).length ((havTo Ls x n).map eB) := by
  have HL := hide h
  have hlb : lb < w.heap.size := by obtain ⟨C, h1, _⟩ := h; exact (Array.getElem?_eq_some_iff.1 h1).1
  have HN := hide hn
  clear h hn
  obtain ⟨i0, hi0, hz0, hz1, hz2⟩ := info_parts Tryd.info5
  go_enter Tryd.func20, Tryd.ntmps20
  go_wp2_with fail
  go_loopw [5, 10] (fun v i wr => ∃ k : Nat, k ≤ n ∧ i = .int .i64 k ∧ w.grownBy wr (some lb) ∧ LB2 w wr lb (rstTo Ls x k) ∧ wr.ownsRow w.heap.size 5 1 v (havTo Ls x k).length ((havTo Ls x k).map eB)) (fun _ i _ => n - (intOf i).toNat)
  case atStart => exact ⟨0, Nat.zero_le _, rfl, ⟨rfl, rfl, rfl, Nat.le_refl _, fun _ _ _ => rfl⟩, by rw [rstTo_zero]; exact HL.out, World.ownsRow_nil _ _ _ _⟩
  case round =>
    obtain ⟨k, hk, rfl, hg, hL, hown⟩ := hrel
    by_cases hlt : k < n
    · obtain ⟨vi, hcell, hfrz, hrd0⟩ := hL.at k (by rw [rstTo_len, HN.out]; exact hlt)
      rw [rstTo_get (by rw [HN.out]; exact hlt), if_neg (by omega)] at hrd0
      have hrd := (rd_now HL.out hrd0 hg).1
      have hhv : Hid (hv Ls x k = decide ((Ls.getD k []).head? = some x)) := rfl
      have hsucc := hide (havTo_succ Ls x k)
      have hhl := havTo_len Ls x k
      have HG := hide hg
      have HLL := hide hL
      have HOWN := hide hown
      have HRD0 := hide hrd0
      have hsz := hg.size
      clear hg hL hown hrd0
      generalize hlk : Ls.getD k [] = lk at *
      have HLK := hide hlk
      clear hlk
      cases lk with
      | nil =>
        obtain ⟨a1, c1, rfl, _, _⟩ := rd_len hrd
        simp only [List.length_nil] at hcell
        clear hrd
        have HNO : Hid (hv Ls x k = false) := by show hv Ls x k = false; rw [hhv.out]; simp
        go_wp2
        go_roundw
        case rel => exact ⟨k + 1, by omega, by go_num, HG.out, by rw [rstTo_no HNO.out]; exact HLL.out, by rw [hsucc.out, HNO.out]; simpa using HOWN.out⟩
        case measure => simp [intOf]; omega
      | cons y ys =>
        obtain ⟨b, o, c1, rfl, hc1, hcm1, cy, _⟩ := rd_cons hrd
        unfold maxLen at hcm1
        have px : (0 : Int) < (ys.length : Int) + 1 := by omega
        by_cases hxy : y = x
        · subst hxy
          have HYES : Hid (hv Ls y k = true) := by show hv Ls y k = true; rw [hhv.out]; simp
          obtain ⟨b', o', c', e', _, _, _, hrt⟩ := rd_cons HRD0.out.1
          injection e' with e1 e2 e3
          injection e1 with e1
          injection e1 with e4 e5 e6
          subst e3 e4 e5
          have HRT : Hid (RdT w (.slice (if c1 = 1 then some ⟨b, o, none⟩ else some ⟨b, o + 1, none⟩) ys.length (c1 - 1)) ys) := ⟨hrt, fun g o' n' c' e => by
            obtain ⟨C, hC⟩ := HRD0.out.2 b o _ _ rfl
            refine ⟨C, ?_⟩
            by_cases q : c1 = 1
            · rw [if_pos q] at e; injection e with e _ _; injection e with e; injection e with e _ _; rw [← e]; exact hC
            · rw [if_neg q] at e; injection e with e _ _; injection e with e; injection e with e _ _; rw [← e]; exact hC⟩
          have hlb' : lb < wr.heap.size := by omega
          clear hrd hrt e2
          by_cases cc1 : c1 = 1
          all_goals
            go_wp2_with (at_builtin; refine wpList_append_own _ rfl _ _ 24 rfl w.heap.size 5 i0 (.int .u8 0) 1 1 Tryd.underlying24 hi0 hz0 hz1 hz2 rfl (by decide) _ _ _ rfl (HOWN.out.alloc _) ⟨wr.heap.size, 0, none⟩ 1 1 [.int .u8 (k : Int)] rfl rfl (cell_one_new _ _ _) (by intro u hu; simp at hu; subst hu; rfl) (by unfold maxLen; omega) (by omega) (by simp; omega) ?_; intro v3 w3 hown3 hgrow3 _; have hgo := grown_own HG.out HOWN.out hgrow3; have d0 : w3.cell? ⟨lb, k, none⟩ = some (.slice (some ⟨b, o, none⟩) (ys.length + 1) c1) := (World.cell?_of_block (w := wr) (a := ⟨lb, k, none⟩) (hgo.2 lb hlb)).trans hcell; have d1 : w3.frozen? ⟨lb, k, none⟩ = false := (World.frozen?_of_block (w := wr) (a := ⟨lb, k, none⟩) (hgo.2 lb hlb)).trans hfrz; have HGO := hide hgo; have HO3 := hide hown3; clear hown3 hgrow3 hgo)
            go_wp2
            go_roundw
            case rel =>
              refine ⟨k + 1, by omega, by go_num, ?_, ?_, ?_⟩
              · exact grown_put HGO.out.1
              · refine LB2.put (LB2.keep HLL.out (HGO.out.2 lb hlb)) (by rw [rstTo_len, rstTo_len]) ?_ ?_
                · rw [rstTo_get (by rw [HN.out]; exact hlt), if_pos ⟨by omega, HYES.out⟩, HLK.out]
                  have := HRT.out
                  first | exact this | (simp [cc1] at this ⊢; exact this)
                · intro i hi hne
                  rw [rstTo_len] at hi
                  rw [rstTo_get hi, rstTo_get hi]
                  have e : (i < k + 1) ↔ (i < k) := by omega
                  simp only [e]
              · rw [hsucc.out, if_pos HYES.out, List.map_append, List.length_append]
                exact own_put hlb HO3.out
            case measure => simp [intOf]; omega
        · have HNO : Hid (hv Ls x k = false) := by show hv Ls x k = false; rw [hhv.out]; simpa using hxy
          have hbeq : (y.toList == x.toList) = false := by rw [eq_eq]; simpa using hxy
          clear hrd
          go_wp2
          go_roundw
          case rel => exact ⟨k + 1, by omega, by go_num, HG.out, by rw [rstTo_no HNO.out]; exact HLL.out, by rw [hsucc.out, HNO.out]; simpa using HOWN.out⟩
          case measure => simp [intOf]; omega
    · have hke : k = n := by omega
      subst hke
      have HG := hide hg
      have HLL := hide hL
      have HOWN := hide hown
      clear hg hL hown
      go_wp2
      go_ret
      exact ⟨_, rfl, HG.out, LB2.out HL.out HLL.out HG.out, HOWN.out⟩
end Go.Proofs.YtkncboinfcnklaaDoor
