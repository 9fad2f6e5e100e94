import Derived.Test.YtkncboinfcnklabGreatDoorQ7
namespace Go.Proofs.YtkncboinfcnklabGreatDoor
open Go.RowKit Go.Deep Go.Proofs.YtkncboinfcnklabGreatDoor.Mth

theorem eC_atG : ∀ {l : List Ent} {j : Nat}, j < l.length → (l.flatMap eC)[j * 3]? = some (.int .i64 (l.getD j e0).seq) ∧ (l.flatMap eC)[j * 3 + 1]? = some (.int .i64 (l.getD j e0).time) ∧ (l.flatMap eC)[j * 3 + 2]? = some (.string (l.getD j e0).text)
  | f :: l, 0, _ => by simp [eC]
  | f :: l, j + 1, h => by
    obtain ⟨a, b, c⟩ := eC_atG (l := l) (j := j) (by simpa using h)
    rw [List.flatMap_cons]
    refine ⟨?_, ?_, ?_⟩
    · rw [List.getElem?_append_right (by simp [eC]; omega)]; simpa [eC, show (j + 1) * 3 - 3 = j * 3 by omega] using a
    · rw [List.getElem?_append_right (by simp [eC]; omega)]; simpa [eC, show (j + 1) * 3 + 1 - 3 = j * 3 + 1 by omega] using b
    · rw [List.getElem?_append_right (by simp [eC]; omega)]; simpa [eC, show (j + 1) * 3 + 2 - 3 = j * 3 + 2 by omega] using c
theorem own_en {w : World} {B : Nat} {e : TypeId} {g n c : Nat} {es : List Ent} (h : w.ownsRow B e 3 (.slice (some ⟨g, 0, none⟩) n c) n (es.flatMap eC)) {k : Nat} (hn : es.length = n) (hk : k < n) : w.cell? ⟨g, k * 3, none⟩ = some (.int .i64 (es.getD k e0).seq) ∧ w.cell? ⟨g, k * 3 + 1, none⟩ = some (.int .i64 (es.getD k e0).time) ∧ w.cell? ⟨g, k * 3 + 2, none⟩ = some (.string (es.getD k e0).text) := by
  obtain ⟨h0, h1, h2⟩ := eC_atG (l := es) (j := k) (by omega)
  exact ⟨own_get h h0, own_get h h1, own_get h h2⟩

/-! ### which entries are found -/
theorem range_map {α : Type} (es : List α) (z : α) (q : α → Bool) : ((List.range es.length).filter (fun i => q (es.getD i z))).map (fun i => es.getD i z) = es.filter q := by
  have h : (List.range es.length).map (fun i => es.getD i z) = es := by
    apply List.ext_getElem
    · simp
    · intro i h1 h2
      simp at h1
      simp [List.getD, h1]
  have h2 : ((List.range es.length).filter (q ∘ (fun i => es.getD i z))).map (fun i => es.getD i z) = ((List.range es.length).map (fun i => es.getD i z)).filter q := by rw [List.filter_map]
  rw [h] at h2
  exact h2
/-- The entries that have a word and a time from lo to hi. -/
def fnd (es : List Ent) (x : ByteArray) (lo hi : Int) : List Ent := es.filter (fun e => memD x (wd e.text) && (decide (lo ≤ e.time) && decide (e.time ≤ hi)))
/-- Times do not fall. -/
def Tms (es : List Ent) : Prop := ∀ i j, i ≤ j → j < es.length → (es.getD i e0).time ≤ (es.getD j e0).time
theorem fnd_eq {es : List Ent} {x : ByteArray} {lo hi : Int} {a b : Nat} (_ha : a ≤ es.length) (_hb : b ≤ es.length)
    (h1 : ∀ i, i < a → decide (lo ≤ (es.getD i e0).time) = false) (h2 : ∀ i, a ≤ i → i < es.length → decide (lo ≤ (es.getD i e0).time) = true)
    (h3 : ∀ i, i < b → decide (hi < (es.getD i e0).time) = false) (h4 : ∀ i, b ≤ i → i < es.length → decide (hi < (es.getD i e0).time) = true) :
    (btw (fun a b : Int => a < b) (a : Int) ((b : Int) - 1) (hasUp es x es.length)).map (fun i => es.getD i.toNat e0) = fnd es x lo hi := by
  unfold btw hasUp fnd
  rw [List.filter_map, List.map_map, List.filter_filter, ← range_map es e0]
  rw [show ((fun i : Int => es.getD i.toNat e0) ∘ fun i : Nat => (i : Int)) = fun i : Nat => es.getD i e0 from by funext i; simp]
  congr 1
  apply List.filter_congr
  intro i hmem
  have hil : i < es.length := by simpa using hmem
  simp only [Function.comp]
  have c1 : (!decide ((i : Int) < (a : Int))) = decide (lo ≤ (es.getD i e0).time) := by
    by_cases q : i < a
    · rw [h1 i q, decide_eq_true (by omega)]; rfl
    · rw [h2 i (by omega) hil, decide_eq_false (by omega)]; rfl
  have c2 : (!decide ((b : Int) - 1 < (i : Int))) = decide ((es.getD i e0).time ≤ hi) := by
    by_cases q : i < b
    · have := h3 i q
      rw [decide_eq_false (by omega), decide_eq_true]; · rfl
      · have := of_decide_eq_false this; omega
    · have := of_decide_eq_true (h4 i (by omega) hil)
      rw [decide_eq_true (by omega), decide_eq_false (by omega)]; rfl
  rw [c1, c2]
  cases memD x (wd (es.getD i e0).text) <;> cases decide (lo ≤ (es.getD i e0).time) <;> cases decide ((es.getD i e0).time ≤ hi) <;> rfl

set_option maxRecDepth 100000 in
set_option maxHeartbeats 1000000 in
theorem find1_any {w : World} {s g n c x y i : Nat} {lo t : Int} {_u : Value} (hx : w.cell? ⟨x, 0, none⟩ = some (.pointer (some ⟨s, 0, none⟩))) (hy : w.cell? ⟨y, 0, none⟩ = some (.int .i64 lo)) (hs : w.cell? ⟨s, 0, none⟩ = some (.slice (some ⟨g, 0, none⟩) n c)) (ht : w.cell? ⟨g, i * 3 + 1, none⟩ = some (.int .i64 t)) (hi : i < n) (_hn : n ≤ 4194304) (_hc : n ≤ c) (_hm : c ≤ maxLen) :
    Calls Tryz.prog 52 #[.int .i64 (i : Int), .pointer (some ⟨x, 0, none⟩), .pointer (some ⟨y, 0, none⟩)] w fun e w' => e = .returned (.bool (decide (lo ≤ t))) ∧ ∃ m', w' = w.drewN m' := by
  unfold maxLen at _hm
  go_enter Tryz.func52, Tryz.ntmps52
  go_wp2_with fail
  go_quiet (fail)
  go_wp2
  go_ret
  exact ⟨by first | rfl | simp, _, rfl⟩

set_option maxRecDepth 100000 in
set_option maxHeartbeats 1000000 in
theorem find2_any {w : World} {s g n c x y i : Nat} {lo t : Int} {_u : Value} (hx : w.cell? ⟨x, 0, none⟩ = some (.pointer (some ⟨s, 0, none⟩))) (hy : w.cell? ⟨y, 0, none⟩ = some (.int .i64 lo)) (hs : w.cell? ⟨s, 0, none⟩ = some (.slice (some ⟨g, 0, none⟩) n c)) (ht : w.cell? ⟨g, i * 3 + 1, none⟩ = some (.int .i64 t)) (hi : i < n) (_hn : n ≤ 4194304) (_hc : n ≤ c) (_hm : c ≤ maxLen) :
    Calls Tryz.prog 53 #[.int .i64 (i : Int), .pointer (some ⟨x, 0, none⟩), .pointer (some ⟨y, 0, none⟩)] w fun e w' => e = .returned (.bool (decide (lo < t))) ∧ ∃ m', w' = w.drewN m' := by
  unfold maxLen at _hm
  go_enter Tryz.func53, Tryz.ntmps53
  go_wp2_with fail
  go_quiet (fail)
  go_wp2
  go_ret
  exact ⟨by first | rfl | simp, _, rfl⟩

theorem CurE.pre {w wA w1 : World} {v : Value} {l : List Ent} (hb : Below w.heap.size w wA) (h : CurE wA w1 v l) : CurE w w1 v l := ⟨hb.trans (h.1.mono hb.size), own_base h.2 hb.size⟩

/-- Three boxes. -/
theorem three_boxes (w : World) (p q r : Value) (t1 t2 t3 : TypeId) : ∃ W, W = ((w.alloc (Obj.cells #[p] t1)).alloc (Obj.cells #[q] t2)).alloc (Obj.cells #[r] t3) ∧ Below w.heap.size w W ∧ W.cell? ⟨w.heap.size, 0, none⟩ = some p ∧ W.cell? ⟨w.heap.size + 1, 0, none⟩ = some q ∧ W.cell? ⟨w.heap.size + 2, 0, none⟩ = some r ∧ W.heap.size = w.heap.size + 3 := by
  refine ⟨_, rfl, ?_, ?_, ?_, ?_, ?_⟩
  · have b1 := below_allocG w (Obj.cells #[p] t1)
    have b2 := below_allocG (w.alloc (Obj.cells #[p] t1)) (Obj.cells #[q] t2)
    have b3 := below_allocG ((w.alloc (Obj.cells #[p] t1)).alloc (Obj.cells #[q] t2)) (Obj.cells #[r] t3)
    exact (b1.trans (b2.mono b1.size)).trans (b3.mono (b1.trans (b2.mono b1.size)).size)
  · exact (cell_of (j := 0) (old_blk _ (old_blk _ (new_blk w #[p] t1))) rfl).1
  · have := new_blk (w.alloc (Obj.cells #[p] t1)) #[q] t2
    rw [World.size_alloc] at this
    exact (cell_of (j := 0) (old_blk _ this) rfl).1
  · have := new_blk ((w.alloc (Obj.cells #[p] t1)).alloc (Obj.cells #[q] t2)) #[r] t3
    rw [World.size_alloc, World.size_alloc] at this
    exact (cell_of (j := 0) this rfl).1
  · simp

set_option maxRecDepth 100000 in
set_option maxHeartbeats 4000000 in
theorem find_seg {w : World} {B s mb : Nat} {es : List Ent} {ev : Value} (h : SegAt w B s es ev mb) (x : ByteArray) (hx : x.size ≤ maxLen) (lo hi : Int) (hl : es.length ≤ 1048576) (ht : Tms es) :
    Calls Tryz.prog 30 #[.pointer (some ⟨s, 0, none⟩), .string x, .int .i64 lo, .int .i64 hi] w fun e w' => ∃ v, e = .returned v ∧ CurE w w' v (fnd es x lo hi) := by
  obtain ⟨i0, hi0, hz0, hz1, hz2⟩ := info_parts Tryz.info49
  obtain ⟨a, c, rfl, hc, hm⟩ := own_slice h.own
  obtain ⟨W, hW, hb, k1, k2, k3, hsz⟩ := three_boxes w (.pointer (some ⟨s, 0, none⟩)) (.int .i64 lo) (.int .i64 hi) 70 3 3
  have hS := h.below hb
  obtain ⟨q0, _⟩ := cell_of (j := 0) (u := .slice a es.length c) hS.blk rfl
  obtain ⟨q1, _⟩ := cell_of (j := 1) (u := .map (some mb)) hS.blk rfl
  have C1 : Hid (Calls Tryz.prog 51 #[.int .i64 (es.length : Int), .func (.func 52) #[] #[.pointer (some ⟨w.heap.size, 0, none⟩), .pointer (some ⟨w.heap.size + 1, 0, none⟩)]] W (Srch W es.length (fun i => decide (lo ≤ (es.getD i e0).time)))) := by
    refine search_find1 es.length w.heap.size (w.heap.size + 1) _ W (by omega) (fun i j hij hj hp => decide_eq_true (Int.le_trans (of_decide_eq_true hp) (ht i j hij hj))) (fun i m hi' => ?_)
    obtain ⟨g, rfl⟩ := own_some hS.own (by omega)
    refine (find1_any (w := W.drewN m) (s := s) (g := g) (n := es.length) (c := c) (_u := .slice none 0 0) k1 k2 q0 (own_en hS.own rfl hi').2.1 hi' (by omega) hc hm).mono ?_
    rintro e w' ⟨rfl, m', rfl⟩
    exact ⟨rfl, m + m', by simp⟩
  have C2 : Hid (∀ m, Calls Tryz.prog 51 #[.int .i64 (es.length : Int), .func (.func 53) #[] #[.pointer (some ⟨w.heap.size, 0, none⟩), .pointer (some ⟨w.heap.size + 2, 0, none⟩)]] (W.drewN m) (Srch (W.drewN m) es.length (fun i => decide (hi < (es.getD i e0).time)))) := by
    intro m0
    refine search_find2 es.length w.heap.size (w.heap.size + 2) _ (W.drewN m0) (by omega) (fun i j hij hj hp => decide_eq_true (Int.lt_of_lt_of_le (of_decide_eq_true hp) (ht i j hij hj))) (fun i m hi' => ?_)
    obtain ⟨g, rfl⟩ := own_some hS.own (by omega)
    refine (find2_any (w := (W.drewN m0).drewN m) (s := s) (g := g) (n := es.length) (c := c) (_u := .slice none 0 0) k1 k3 q0 (own_en hS.own rfl hi').2.1 hi' (by omega) hc hm).mono ?_
    rintro e w' ⟨rfl, m', rfl⟩
    exact ⟨rfl, m + m', by simp [Nat.add_assoc]⟩
  unfold maxLen at hm
  have HS := hide hS
  have HB := hide hb
  have HSZ := hide hsz
  clear hS hb h ht hsz
  generalize hn : es.length = n at *
  have HN := hide hn
  clear hn
  have q0' := q0
  rw [hW] at q0'
  have HW := hide hW
  clear hW
  go_enter Tryz.func30, Tryz.ntmps30
  go_wp2_with fail
  rw [← HW.out]
  refine C1.out.mono ?_
  rintro e w1 ⟨fa, rfl, hfa, hfa1, hfa2, m1, rfl⟩
  have HA := hide (⟨hfa1, hfa2⟩ : (∀ i, i < fa → decide (lo ≤ (es.getD i e0).time) = false) ∧ ∀ i, fa ≤ i → i < n → decide (lo ≤ (es.getD i e0).time) = true)
  clear hfa1 hfa2 C1 q0'
  go_wp2_with fail
  refine (C2.out _).mono ?_
  rintro e w1 ⟨fb, rfl, hfb, hfb1, hfb2, m2, rfl⟩
  have HB2 := hide (⟨hfb1, hfb2⟩ : (∀ i, i < fb → decide (hi < (es.getD i e0).time) = false) ∧ ∀ i, fb ≤ i → i < n → decide (hi < (es.getD i e0).time) = true)
  clear hfb1 hfb2 C2
  rw [World.drewN_drewN]
  obtain ⟨W2, hW2⟩ : ∃ W2, W2 = W.drewN (m1 + m2) := ⟨_, rfl⟩
  have HB3 : Hid (Below w.heap.size w W2) := by rw [hW2]; exact HB.out.trans ((drewG W _).mono HB.out.size)
  have hS2 : SegAt W2 B s es (.slice a n c) mb := by rw [hW2]; exact HS.out.below (drewG W _)
  have k12 : W2.cell? ⟨w.heap.size, 0, none⟩ = some (.pointer (some ⟨s, 0, none⟩)) := by rw [hW2]; exact k1
  rw [← hW2]
  obtain ⟨q02, _⟩ := cell_of (j := 0) (u := .slice a n c) hS2.blk rfl
  obtain ⟨q12, _⟩ := cell_of (j := 1) (u := .map (some mb)) hS2.blk rfl
  clear hW2 k1 k2 k3 q0 q1 HB HS HW HSZ
  obtain ⟨T, hlook, hT, hup, hlst⟩ := hS2.idx.look x hx
  obtain ⟨u, hu⟩ := WI.ptr_pointer T
  rw [hu] at hlook
  have HSET : Hid (WI.SetAt (W2.alloc (Obj.cells #[.pointer u] 128)) W2.heap.size T) := by
    obtain ⟨d1, d2⟩ := cell_of (j := 0) (u := .pointer u) (new_blk W2 #[.pointer u] 128) rfl
    exact ⟨by rw [hu]; exact d1, d2, InT.below (below_allocG W2 _) hT, hup⟩
  have hlen : (lst T).length ≤ n := by rw [hlst]; unfold hasUp; rw [List.length_map]; exact Nat.le_trans (List.length_filter_le _ _) (by simp [HN.out])
  have CB := hide (WI.between_any W2.heap.size T (fa : Int) ((fb : Int) - 1) _ HSET.out (by omega))
  rw [hlst] at CB
  have HS2 := hide hS2
  have HUP := hide hup
  clear hS2 hT hup hlst hlen HUP HSET
  go_wp2_with (first | (go_at_call 54; refine CB.out.mono ?_; rintro e w4 ⟨v4, rfl, hc4⟩; obtain ⟨a4, c4, rfl, hc4c, hc4m⟩ := own_slice hc4.2; have HC4 := hide hc4; clear hc4))
  have HLN : Hid (∀ y ∈ btw (fun a b : Int => a < b) (fa : Int) ((fb : Int) - 1) (hasUp es x es.length), ∃ j : Nat, j < n ∧ y = (j : Int)) := by
    intro y hy
    have := (List.mem_filter.1 hy).1
    unfold hasUp at this
    obtain ⟨j, hj, rfl⟩ := List.mem_map.1 this
    have := (List.mem_filter.1 hj).1
    exact ⟨j, by rw [← HN.out]; simpa using this, rfl⟩
  have HEQ := hide (fnd_eq (es := es) (x := x) (lo := lo) (hi := hi) (a := fa) (b := fb) (by rw [HN.out]; exact hfa) (by rw [HN.out]; exact hfb) HA.out.1 (by rw [HN.out]; exact HA.out.2) HB2.out.1 (by rw [HN.out]; exact HB2.out.2))
  have HLL : Hid ((btw (fun a b : Int => a < b) (fa : Int) ((fb : Int) - 1) (hasUp es x es.length)).length ≤ n) := by
    refine Nat.le_trans (List.length_filter_le _ _) ?_
    unfold hasUp
    rw [List.length_map]
    exact Nat.le_trans (List.length_filter_le _ _) (by simp [HN.out])
  have HS4 := hide ((HS2.out.below (below_allocG W2 (Obj.cells #[.pointer u] 128))).below HC4.out.1)
  have HB4 : Hid (Below w.heap.size w w4) := by
    have b1 := HB3.out.trans ((below_allocG W2 (Obj.cells #[.pointer u] 128)).mono HB3.out.size)
    exact b1.trans (HC4.out.1.mono b1.size)
  have k14 : w4.cell? ⟨w.heap.size, 0, none⟩ = some (.pointer (some ⟨s, 0, none⟩)) := by
    have b1 := (below_allocG W2 (Obj.cells #[.pointer u] 128)).cell (p := ⟨w.heap.size, 0, none⟩) (World.block_lt_of_cell? _ _ k12)
    have e1 := b1.trans k12
    exact (HC4.out.1.cell (p := ⟨w.heap.size, 0, none⟩) (World.block_lt_of_cell? _ _ e1)).trans e1
  clear HA HB2 CB hlook k12 q02 q12 HB3
  have HOW := hide HC4.out.2
  clear HC4 HS2
  generalize btw (fun a b : Int => a < b) (fa : Int) ((fb : Int) - 1) (hasUp es x es.length) = L at *
  have hLl := HLL.out
  generalize hln : L.length = ln at *
  have HLEN := hide hln
  clear hln
  go_loopw [12, 40] (fun v i wr => ∃ k : Nat, k ≤ ln ∧ i = .int .i64 k ∧ CurE w4 wr v ((L.take k).map (fun i => es.getD i.toNat e0))) (fun _ i _ => ln - (intOf i).toNat)
  case atStart => exact ⟨0, Nat.zero_le _, rfl, Below.refl _ _, World.ownsRow_nil _ _ _ _⟩
  case round =>
    obtain ⟨k, hk, rfl, hcur⟩ := hrel
    have HC := hide hcur
    clear hcur
    by_cases hlt : k < ln
    · obtain ⟨g4, rfl⟩ := own_some HOW.out (by omega)
      obtain ⟨j, hj, hjy⟩ := HLN.out (L.getD k 0) (getDmem (by rw [HLEN.out]; exact hlt))
      have d4 : wr.cell? ⟨g4, k, none⟩ = some (.int .i64 (j : Int)) := by
        have e := own_get HOW.out (j := k) (u := .int .i64 (j : Int)) (by
          rw [List.getElem?_map, List.getElem?_eq_getElem (by rw [HLEN.out]; exact hlt)]
          have : L[k]'(by rw [HLEN.out]; exact hlt) = (j : Int) := by rw [← hjy]; simp [List.getD, HLEN.out, hlt]
          rw [this]; rfl)
        exact (HC.out.1.cell (p := ⟨g4, k, none⟩) (World.block_lt_of_cell? _ _ e)).trans e
      have hSr := HS4.out.below HC.out.1
      have ho := hSr.own
      rw [HN.out] at ho
      obtain ⟨g, rfl⟩ := own_some ho (by omega)
      obtain ⟨q0, _⟩ := cell_of (j := 0) (u := .slice (some ⟨g, 0, none⟩) n c) hSr.blk rfl
      obtain ⟨e0', e1, e2⟩ := own_en ho HN.out hj
      have kr := (HC.out.1.cell (p := ⟨w.heap.size, 0, none⟩) (World.block_lt_of_cell? _ _ k14)).trans k14
      have HTK : Hid ((L.take (k + 1)).map (fun i => es.getD i.toNat e0) = (L.take k).map (fun i => es.getD i.toNat e0) ++ [es.getD j e0]) := by
        show _ = _
        rw [take_snoc (by rw [HLEN.out]; exact hlt) 0, List.map_append, hjy]
        simp
      have hml : ((L.take k).map (fun i => es.getD i.toNat e0)).length = k := by rw [List.length_map, List.length_take, HLEN.out]; omega
      clear hSr ho hjy
      generalize (L.take k).map (fun i => es.getD i.toNat e0) = m at *
      obtain ⟨f, hf⟩ : ∃ f, f = es.getD j e0 := ⟨_, rfl⟩
      rw [← hf] at e0' e1 e2
      have HF := hide hf
      clear hf
      obtain ⟨fs, ft, fx⟩ := f
      simp only at e0' e1 e2
      have hsz4 := HC.out.1.size
      go_wp2_with (first | (at_builtin; refine wpList_append_own _ rfl _ _ 33 rfl w4.heap.size 49 i0 (.agg #[.int .i64 0, .int .i64 0, .string ByteArray.empty]) 3 32 Tryz.underlying33 hi0 hz0 hz1 hz2 rfl (by decide) _ _ _ rfl (HC.out.2.alloc _) ⟨wr.heap.size, 0, none⟩ 1 1 [.int .i64 fs, .int .i64 ft, .string fx] rfl rfl (cell_three_new _ _ _ _ _) (by intro u hu; simp at hu; rcases hu with rfl | rfl | rfl <;> rfl) (by unfold maxLen; omega) (by omega) (by simp; omega) ?_; intro v5 w5 hown5 hgrow5 _; have HC5 := hide (curE_append (e := ⟨fs, ft, fx⟩) HC.out hown5 hgrow5); clear hown5 hgrow5))
      go_roundw
      case rel => exact ⟨k + 1, by omega, by go_num, by rw [HTK.out, ← HF.out]; exact HC5.out⟩
      case measure => simp [intOf]; omega
    · have hke : k = ln := by omega
      subst hke
      have HF : Hid (L.take k = L) := List.take_of_length_le (by rw [HLEN.out]; exact Nat.le_refl _)
      go_wp2
      go_ret
      exact ⟨_, rfl, CurE.pre HB4.out (by have := HC.out; rwa [HF.out, HEQ.out] at this)⟩
end Go.Proofs.YtkncboinfcnklabGreatDoor

namespace Go.Proofs.YtkncboinfcnklabGreatDoor
open Go.RowKit Go.Deep Go.Proofs.YtkncboinfcnklabGreatDoor.Mth

/-- Does an entry have the word, and do the times meet? -/
def mts (es : List Ent) (x : ByteArray) (lo hi : Int) : Bool := es.any (fun e => memD x (wd e.text)) && decide ((es.getD 0 e0).time ≤ hi) && decide (lo ≤ (es.getD (es.length - 1) e0).time)
theorem hasUp_pos (es : List Ent) (x : ByteArray) : decide (0 < (hasUp es x es.length).length) = es.any (fun e => memD x (wd e.text)) := by
  rw [Bool.eq_iff_iff, decide_eq_true_eq, List.any_eq_true]
  unfold hasUp
  rw [List.length_map, List.length_pos_iff_exists_mem]
  constructor
  · rintro ⟨i, hi⟩
    obtain ⟨h1, h2⟩ := List.mem_filter.1 hi
    exact ⟨es.getD i e0, getDmem (by simpa using h1), h2⟩
  · rintro ⟨e, he, hx⟩
    obtain ⟨i, hi, rfl⟩ := List.mem_iff_getElem.1 he
    exact ⟨i, List.mem_filter.2 ⟨by simpa using hi, by rw [show es.getD i e0 = es[i] by simp [List.getD, hi]]; exact hx⟩⟩

set_option maxRecDepth 100000 in
set_option maxHeartbeats 4000000 in
theorem meets_any {w : World} {B s mb : Nat} {es : List Ent} {ev : Value} (h : SegAt w B s es ev mb) (x : ByteArray) (hx : x.size ≤ maxLen) (lo hi : Int) (hl : es.length ≤ 1048576) :
    Calls Tryz.prog 31 #[.pointer (some ⟨s, 0, none⟩), .string x, .int .i64 lo, .int .i64 hi] w fun e w' => e = .returned (.bool (mts es x lo hi)) ∧ Below w.heap.size w w' := by
  obtain ⟨a, c, rfl, hc, hm⟩ := own_slice h.own
  obtain ⟨q0, _⟩ := cell_of (j := 0) (u := .slice a es.length c) h.blk rfl
  obtain ⟨q1, _⟩ := cell_of (j := 1) (u := .map (some mb)) h.blk rfl
  obtain ⟨T, hlook, hT, hup, hlst⟩ := h.idx.look x hx
  obtain ⟨u, hu⟩ := WI.ptr_pointer T
  rw [hu] at hlook
  obtain ⟨W, hW⟩ : ∃ W, W = w.alloc (Obj.cells #[.pointer u] 128) := ⟨_, rfl⟩
  have HB0 : Hid (Below w.heap.size w W) := by rw [hW]; exact below_allocG w _
  have hset : WI.SetAt W w.heap.size T := by
    obtain ⟨d1, d2⟩ := cell_of (j := 0) (u := .pointer u) (new_blk w #[.pointer u] 128) rfl
    rw [hW]
    exact ⟨by rw [hu]; exact d1, d2, InT.below (below_allocG w _) hT, hup⟩
  have CL : Hid (∀ d os, _) := fun d os => Calls.regrown_of (w := W) (d := d) (os := os) ((WI.len_any w.heap.size T (Sort.grow (redrawn W d) os) ⟨(cell_regrown hset.1 d os), by
      have := (below_regrown W d os).frozen (p := ⟨w.heap.size, 0, none⟩) (World.block_lt_of_cell? _ _ hset.1)
      exact this.trans hset.2.1, InT.below (below_regrown W d os) hset.2.2.1, hset.2.2.2⟩).mono fun e w' q => ⟨q.1, by rw [q.2]; exact Below.refl _ _⟩)
  have hh := hasUp_pos es x
  rw [← hlst] at hh
  have hS := h.below HB0.out
  obtain ⟨q0', _⟩ := cell_of (j := 0) (u := .slice a es.length c) hS.blk rfl
  have e0' := cell_regrown q0'
  have hNn : (lst T).length ≤ es.length := by rw [hlst]; unfold hasUp; rw [List.length_map]; exact Nat.le_trans (List.length_filter_le _ _) (by simp)
  have HO := hide hS.own
  unfold maxLen at hm
  generalize hmt : mts es x lo hi = mt
  unfold mts at hmt
  rw [← hh] at hmt
  clear hh hset h hT hup hlst hS q0'
  generalize (lst T).length = N at *
  generalize ht0 : (es.getD 0 e0).time = t0 at *
  generalize ht1 : (es.getD (es.length - 1) e0).time = t1 at *
  have HT0 := hide ht0
  have HT1 := hide ht1
  clear ht0 ht1
  generalize hn : es.length = n at *
  have HN := hide hn
  clear hn
  have HMT := hide hmt
  have HW := hide hW
  clear hmt hW hu
  have HCS : Hid ((N = 0) ∨ (0 < N ∧ decide (t0 ≤ hi) = false) ∨ (0 < N ∧ decide (t0 ≤ hi) = true)) := by
    show _ ∨ _
    cases decide (t0 ≤ hi) <;> simp <;> omega
  rcases HCS.out with hN | ⟨hN, h1⟩ | ⟨hN, h1⟩
  · subst hN
    have HF : Hid (mt = false) := by rw [← HMT.out]; rfl
    clear HMT HCS
    go_enter Tryz.func31, Tryz.ntmps31
    go_wp2_with fail
    rw [← HW.out]
    refine wp_region_quiet_below (by kernel_rfl) (by kernel_rfl) ?_
    repeat (go_big_quiet_step (first | (go_at_call 55; exact CL.out _ _)))
    refine wpQuiet_nil ?_
    intro _ hw'
    obtain ⟨⟨dq, osq⟩, hw''⟩ := hw'
    subst hw''
    go_wp2
    go_ret
    exact ⟨by rw [HF.out]; rfl, HB0.out.trans ((below_regrown W dq osq).mono HB0.out.size)⟩
  all_goals (
    have ho := HO.out
    obtain ⟨g, rfl⟩ := own_some ho (by omega)
    obtain ⟨_, d0, _⟩ := own_en ho HN.out (k := 0) (by omega)
    obtain ⟨_, d1, _⟩ := own_en ho HN.out (k := n - 1) (by omega)
    rw [HT0.out, Nat.zero_mul, Nat.zero_add] at d0
    rw [HT1.out] at d1
    have d0' := cell_regrown d0
    have d1' := cell_regrown d1
    have hcast : (n : Int) - 1 = ((n - 1 : Nat) : Int) := by omega
    have hpos : 0 < n := by omega
    clear ho d0 d1 HO HCS
    go_enter Tryz.func31, Tryz.ntmps31
    go_wp2_with fail
    rw [← HW.out]
    refine wp_region_quiet_below (by kernel_rfl) (by kernel_rfl) ?_
    repeat (go_big_quiet_step (first | (go_at_call 55; exact CL.out _ _)))
    refine wpQuiet_nil ?_
    intro _ hw'
    obtain ⟨⟨dq, osq⟩, hw''⟩ := hw'
    subst hw''
    go_wp2
    go_ret
    refine ⟨?_, HB0.out.trans ((below_regrown W dq osq).mono HB0.out.size)⟩
    rw [← HMT.out, decide_eq_true hN]
    rw [h1]; rfl)
end Go.Proofs.YtkncboinfcnklabGreatDoor

namespace Go.Proofs.YtkncboinfcnklabGreatDoor
open Go.RowKit Go.Deep Go.Proofs.YtkncboinfcnklabGreatDoor.Mth

theorem results_cellG {fn : Func} {p : Tmp} {ty : TypeId} (h : fn.results = #[.cell p ty]) (tmps : Array Value) (P : Program) (w : World) :
    (results fn tmps).run P w = ((asAddr (tmps.getD p undef)).run P w).andThen fun a w₁ => (loadVar ty a).run P w₁ := by
  simp only [results, h]
  simp [Sem.run_bind, Result.andThen]

theorem hasUp_lt {es : List Ent} {x : ByteArray} {y : Int} (h : y ∈ hasUp es x es.length) : ∃ j : Nat, j < es.length ∧ y = (j : Int) := by
  unfold hasUp at h
  obtain ⟨j, hj, rfl⟩ := List.mem_map.1 h
  exact ⟨j, by simpa using (List.mem_filter.1 hj).1, rfl⟩

set_option maxHeartbeats 1000000 in
theorem follow1_any {w : World} {nb : Nat} {T : BT Int} (h : WI.SetAt w nb T) (i : Nat) (hi : i < (lst T).length) (hb : (lst T).length ≤ 4611686018427) :
    Calls Tryz.prog 115 #[.int .i64 (i : Int), .pointer (some ⟨nb, 0, none⟩)] w fun e w' => e = .returned (.int .i64 ((lst T).getD i 0)) ∧ w' = w := by
  have CA := hide (WI.at_in nb T i w h hi hb)
  clear h
  generalize (lst T).getD i 0 = y at *
  go_enter Tryz.func115, Tryz.ntmps115
  go_wp2_with (first | (go_at_call 116; refine CA.out.mono ?_; rintro e w2 ⟨rfl, rfl⟩))
  go_ret
  exact ⟨rfl, rfl⟩

set_option maxRecDepth 100000 in
set_option maxHeartbeats 1000000 in
theorem follow2_any {w : World} {s g n c x y z nb i j : Nat} {T : BT Int} {place t : Int} (h : WI.SetAt w nb T) (hi : i < (lst T).length) (hb : (lst T).length ≤ 4611686018427) (hj : (lst T).getD i 0 = (j : Int)) (hjn : j < n)
    (hx : w.cell? ⟨x, 0, none⟩ = some (.pointer (some ⟨s, 0, none⟩))) (hy : w.cell? ⟨y, 0, none⟩ = some (.func (.func 115) #[] #[.pointer (some ⟨nb, 0, none⟩)])) (hz : w.cell? ⟨z, 0, none⟩ = some (.int .i64 place))
    (hs : w.cell? ⟨s, 0, none⟩ = some (.slice (some ⟨g, 0, none⟩) n c)) (ht : w.cell? ⟨g, j * 3, none⟩ = some (.int .i64 t)) (_hn : n ≤ 4194304) (_hc : n ≤ c) (_hm : c ≤ maxLen) :
    Calls Tryz.prog 117 #[.int .i64 (i : Int), .pointer (some ⟨x, 0, none⟩), .pointer (some ⟨y, 0, none⟩), .pointer (some ⟨z, 0, none⟩)] w fun e w' => e = .returned (.bool (decide (place ≤ t))) ∧ ∃ m', w' = w.drewN m' := by
  unfold maxLen at _hm
  have CA : Hid (∀ m, Calls Tryz.prog 115 #[.int .i64 (i : Int), .pointer (some ⟨nb, 0, none⟩)] (w.drewN m) fun e w' => e = .returned (.int .i64 (j : Int)) ∧ w' = w.drewN m) := by
    intro m
    have := follow1_any (w := w.drewN m) (nb := nb) (T := T) ⟨h.1, h.2.1, WI.inT_drewN h.2.2.1, h.2.2.2⟩ i hi hb
    rwa [hj] at this
  clear h hi hb hj
  go_enter Tryz.func117, Tryz.ntmps117
  go_wp2_with fail
  go_quiet (first
    | (go_at_call 115; exact Calls.quiet_of_same (CA.out _)))
  go_wp2
  go_ret
  exact ⟨rfl, _, rfl⟩

theorem Tryz.info100 : (Tryz.prog.info? 100).map (fun i => (i.zero, i.size, i.bytes)) = some (some (.agg #[.int .i64 0, .int .i64 0, .int .i64 0]), 3, 24) := by kernel_rfl

set_option maxHeartbeats 1000000 in
theorem shape_any {w : World} {B s mb : Nat} {es : List Ent} {ev : Value} (h : SegAt w B s es ev mb) (hl : es.length ≤ 1048576) (h0 : 0 < es.length) :
    Calls Tryz.prog 63 #[.pointer (some ⟨s, 0, none⟩)] w fun e w' => e = .returned (.agg #[.int .i64 (es.getD 0 e0).seq, .int .i64 (es.getD (es.length - 1) e0).seq, .int .i64 (es.length : Int)]) ∧ Below w.heap.size w w' := by
  obtain ⟨a, c, rfl, hc, hm⟩ := own_slice h.own
  unfold maxLen at hm
  obtain ⟨g, rfl⟩ := own_some h.own h0
  have hsz : (Tryz.prog.info? 100).map (·.size) = some 3 := by
    have := Tryz.info100
    cases h' : Tryz.prog.info? 100 with
    | none => rw [h'] at this; cases this
    | some i => rw [h'] at this; simp at this; simp [this]
  have HB1 := hide (below_allocG w (Obj.cells #[.int .i64 0, .int .i64 0, .int .i64 0] 100))
  have HBK := hide (new_blk w #[.int .i64 0, .int .i64 0, .int .i64 0] 100)
  have hS := h.below HB1.out
  obtain ⟨q0, _⟩ := cell_of (j := 0) (u := .slice (some ⟨g, 0, none⟩) es.length c) hS.blk rfl
  obtain ⟨d0, _, _⟩ := own_en hS.own rfl (k := 0) h0
  obtain ⟨d1, _, _⟩ := own_en hS.own rfl (k := es.length - 1) (by omega)
  rw [Nat.zero_mul] at d0
  clear h hS
  generalize (es.getD 0 e0).seq = t0 at *
  generalize (es.getD (es.length - 1) e0).seq = t1 at *
  obtain ⟨k, hk⟩ : ∃ k, es.length = k + 1 := ⟨es.length - 1, by omega⟩
  rw [hk] at q0 d1 hc hl ⊢
  rw [Nat.add_sub_cancel] at d1
  clear hk h0
  have hka : ((k + 1 : Nat) : Int) - 1 = (k : Int) := by omega
  go_enter Tryz.func63, Tryz.ntmps63
  go_wp2_with fail
  obtain ⟨nb, hnb⟩ : ∃ nb, nb = w.heap.size := ⟨_, rfl⟩
  have HNB := hide hnb
  rw [← hnb] at HBK ⊢
  generalize w.alloc (Obj.cells #[.int .i64 0, .int .i64 0, .int .i64 0] 100) = w1 at *
  clear hnb
  obtain ⟨b0, g0⟩ := cell_of (j := 0) (u := .int .i64 0) HBK.out rfl
  obtain ⟨b1, g1⟩ := cell_of (j := 1) (u := .int .i64 0) HBK.out rfl
  obtain ⟨b2, g2⟩ := cell_of (j := 2) (u := .int .i64 0) HBK.out rfl
  have FIN : Hid (∀ (W : World) (p q r : Value), Below w1.heap.size w1 W → Below w.heap.size w (((W.setCell ⟨nb, 0, none⟩ p).setCell ⟨nb, 1, none⟩ q).setCell ⟨nb, 2, none⟩ r) ∧ (((W.setCell ⟨nb, 0, none⟩ p).setCell ⟨nb, 1, none⟩ q).setCell ⟨nb, 2, none⟩ r).heap[nb]? = some (Obj.cells #[p, q, r] 100 (0, 0))) := by
    intro W p q r hW
    have hBW := HB1.out.trans (hW.mono HB1.out.size)
    have hbk := (hW.block nb (Array.getElem?_eq_some_iff.1 HBK.out).1).trans HBK.out
    exact ⟨below_set (below_set (below_set hBW (by rw [HNB.out]; exact Nat.le_refl _)) (by rw [HNB.out]; exact Nat.le_refl _)) (by rw [HNB.out]; exact Nat.le_refl _), setCell_blk (setCell_blk (setCell_blk hbk))⟩
  go_wp2_with fail
  go_region
  have f := FIN.out w1 (.int .i64 t0) (.int .i64 t1) (.int .i64 ((k : Int) + 1)) (Below.refl _ _)
  have hld := run_loadVar_row (P := Tryz.prog) (((w1.setCell ⟨nb, 0, none⟩ (.int .i64 t0)).setCell ⟨nb, 1, none⟩ (.int .i64 t1)).setCell ⟨nb, 2, none⟩ (.int .i64 ((k : Int) + 1))).drew nb 100 100 _ _ _ f.2 Tryz.underlying100 rfl hsz
  have HLD := hide hld
  have HF := hide f.1
  clear hld f
  go_wp2
  (try simp only [Exit.inBlock, Exit.then])
  refine bodyPost_ret (v := .agg #[.int .i64 t0, .int .i64 t1, .int .i64 ((k : Int) + 1)]) ?_ rfl ⟨by rw [show ((k + 1 : Nat) : Int) = (k : Int) + 1 by omega], ⟨HF.out.os, HF.out.tape, HF.out.output, HF.out.size, HF.out.block⟩⟩
  have hld := HLD.out
  rw [results_cellG rfl]
  simp [asAddr, Result.andThen, hld]
end Go.Proofs.YtkncboinfcnklabGreatDoor
