import Derived.Test.YtkncboinfcnklaaS12
namespace Go.Proofs.Ytkncboinfcnklaa.Str
open Go.RowKit Go.Deep Go.Proofs.Ytkncboinfcnklaa.Mth

/-- A slice of some elements, its first one by its own cell. -/
theorem rd_cons {w : World} {v : Value} {x : ByteArray} {l : List ByteArray} (h : Rd w v (x :: l)) : ∃ b o c, v = .slice (some ⟨b, o, none⟩) (l.length + 1) c ∧ l.length + 1 ≤ c ∧ c ≤ maxLen ∧ w.cell? ⟨b, o, none⟩ = some (.string x) ∧ Rd w (.slice (if c = 1 then some ⟨b, o, none⟩ else some ⟨b, o + 1, none⟩) l.length (c - 1)) l := by
  obtain ⟨a, c, rfl, hc, hm, hz, h⟩ := h
  rcases h with h | ⟨b, o, rfl, h⟩
  · cases h
  · refine ⟨b, o, c, rfl, by simpa using hc, hm, by simpa using h 0 (by simp), ?_⟩
    by_cases c1 : c = 1
    · subst c1
      have hl : l = [] := List.length_eq_zero_iff.1 (by have : (x :: l).length = l.length + 1 := rfl; omega)
      subst hl
      exact ⟨_, _, rfl, by simp, by unfold maxLen; omega, (fun h => by simp at h), Or.inl rfl⟩
    · rw [if_neg c1]
      refine ⟨_, _, rfl, by simp at hc; omega, by omega, (fun h => by cases h), Or.inr ⟨b, o + 1, rfl, fun j hj => ?_⟩⟩
      have := h (j + 1) (by simp; omega)
      rw [show o + 1 + j = o + (j + 1) by omega, this]
      simp [List.getD]

theorem rdL_one {w : World} {va : Value} {A : List ByteArray} (h : Rd w va A) : RdL (w.alloc (.cells #[va] 36)) (.slice (some ⟨w.heap.size, 0, none⟩) 1 1) [A] := by
  refine ⟨_, 1, rfl, by simp, by unfold maxLen; omega, Or.inr ⟨w.heap.size, 0, rfl, fun i hi => ?_⟩⟩
  have : i = 0 := by simp at hi; omega
  subst this
  exact ⟨va, by simp, by simpa using h.below ((Below.refl w.heap.size w).alloc (Nat.le_refl _) _)⟩

theorem below_alloc (w : World) (o : Obj) : Below w.heap.size w (w.alloc o) := (Below.refl w.heap.size w).alloc (Nat.le_refl _) o

theorem cur_rd {w0 w : World} {v : Value} {l : List ByteArray} (h : Cur w0 w v l) : Rd w v l := rd_own h.2

theorem filter_none (l : List ByteArray) : l.filter (fun z => memD z (([] : List ByteArray))) = [] := List.filter_eq_nil_iff.2 (by simp)

/-- The loop of Common, between two rounds. -/
def Mid (w2 wr : World) (va vb vc : Value) (A B C F : List ByteArray) : Prop :=
  Rd w2 va A ∧ Rd w2 vb B ∧ A.Pairwise ltS ∧ B.Pairwise ltS ∧ Cur w2 wr vc C ∧ C ++ A.filter (fun z => memD z (B)) = F ∧ A.length ≤ 1048576 ∧ C.length + A.length ≤ 1048576

set_option maxRecDepth 100000 in
set_option maxHeartbeats 2000000 in
theorem common_core (va vb : Value) (A B : List ByteArray) (w : World) (hA : Rd w va A) (hB : Rd w vb B) (hbA : A.length ≤ 1048576) (hbB : B.length ≤ 1048576) (F : List ByteArray) (hF : (mergedS A).filter (fun z => memD z (mergedS B)) = F) :
    Calls Try.prog 15 #[va, vb] w fun e w' => ∃ v', e = .returned v' ∧ Below w.heap.size w w' ∧ Rd w' v' F := by
  have HF0 := hide hF
  clear hF
  obtain ⟨i0, hi0, hz0, hz1, hz2⟩ := info_parts Try.info9
  have MA := hide (merge_any (rdL_one hA) (by simpa using hbA))
  have HA := hide hA
  have HB := hide hB
  obtain ⟨aa, ca, rfl, _, _⟩ := rd_len hA
  obtain ⟨ab, cb, rfl, _, _⟩ := rd_len hB
  clear hA hB
  go_enter Try.func15, Try.ntmps15
  go_wp2_with fail
  refine MA.out.mono ?_
  rintro e w1 ⟨v1, rfl, hc1⟩
  have b1 : Below w.heap.size w w1 := (below_alloc w _).trans (hc1.1.mono (below_alloc w _).size)
  have MB := hide (merge_any (rdL_one (HB.out.below b1)) (by simpa using hbB))
  have HC1 := hide hc1
  have HB1 := hide b1
  clear hc1 b1 MA
  go_wp2_with fail
  refine MB.out.mono ?_
  rintro e w2 ⟨v2, rfl, hc2⟩
  have b2 : Below w1.heap.size w1 w2 := (below_alloc w1 _).trans (hc2.1.mono (below_alloc w1 _).size)
  have R1 := hide ((cur_rd HC1.out).below b2)
  have R2 := hide (cur_rd hc2)
  have B2 := hide (HB1.out.trans (b2.mono HB1.out.size))
  clear hc2 b2 MB
  have UA := mergedS_up A
  have UB := mergedS_up B
  have LA := mergedS_len A
  simp only [List.flatten_cons, List.flatten_nil, List.append_nil] at R1 R2
  have M0 : Hid (Mid w2 w2 v1 v2 (.slice none 0 0) (mergedS A) (mergedS B) [] F) := ⟨R1.out, R2.out, UA.1, UB.1, ⟨Below.refl _ _, World.ownsRow_nil _ _ _ _⟩, by simpa using HF0.out, by omega, by simp; omega⟩
  clear UA UB LA HF0 R1 R2 HC1 HB1 HA HB
  go_wp2_with fail
  go_loopg [0, 1, 5] ((mergedS A).length + (mergedS B).length) (fun k x y z wr => ∃ A B C : List ByteArray, A.length + B.length = k ∧ Mid w2 wr x y z A B C F)
  case atStart => exact ⟨_, _, _, rfl, M0.out⟩
  case round =>
    obtain ⟨A', B', C', hk, hR1, hR2, hU1, hU2, hcur, hF, hl1, hl2⟩ := hrel
    have HK := hide hk
    have HF := hide hF
    have HCUR := hide hcur
    clear hk hF hcur M0
    cases A' with
    | nil =>
      obtain ⟨a1, c1, rfl, _, _⟩ := rd_len hR1
      clear hR1 hR2 hU1 hU2
      simp only [List.length_nil]
      go_wp2
      go_ret
      exact ⟨_, rfl, B2.out.trans (HCUR.out.1.mono B2.out.size), by rw [← HF.out]; simpa using cur_rd HCUR.out⟩
    | cons x As =>
      obtain ⟨ba, oa, ca, rfl, hca, hcma, cx, hRA⟩ := rd_cons hR1
      have kx : wr.cell? ⟨ba, oa, none⟩ = some (.string x) := (HCUR.out.1.cell (p := ⟨ba, oa, none⟩) (World.block_lt_of_cell? _ _ cx)).trans cx
      have px : (0 : Int) < (As.length : Int) + 1 := by omega
      cases B' with
      | nil =>
        obtain ⟨a1, c1, rfl, _, _⟩ := rd_len hR2
        clear hR1 hR2 hU1 hU2 cx hRA
        simp only [List.length_nil]
        go_wp2
        go_ret
        exact ⟨_, rfl, B2.out.trans (HCUR.out.1.mono B2.out.size), by rw [← HF.out, filter_none, List.append_nil]; exact cur_rd HCUR.out⟩
      | cons y Bs =>
        obtain ⟨bb, ob, cb, rfl, hcb, hcmb, cy, hRB⟩ := rd_cons hR2
        have ky : wr.cell? ⟨bb, ob, none⟩ = some (.string y) := (HCUR.out.1.cell (p := ⟨bb, ob, none⟩) (World.block_lt_of_cell? _ _ cy)).trans cy
        have py : (0 : Int) < (Bs.length : Int) + 1 := by omega
        have HRA := hide hRA
        have HRB := hide hRB
        have HR1 := hide hR1
        have HR2 := hide hR2
        have HU1 := hide hU1
        have HU2 := hide hU2
        unfold maxLen at hcma hcmb
        clear hRA hRB hR1 hR2 hU1 hU2 cx cy
        rcases sordS.tri x y with c | c | c
        · by_cases c1 : ca = 1
          · go_wp2_with fail
            go_quiet ((go_at_call 32; exact Calls.quiet_of_same (cmp_lt _ _ _ c)))
            go_wp2
            go_roundg (As.length + (Bs.length + 1))
            case measure => have := HK.out; simp at this ⊢; omega
            case rel => exact ⟨As, y :: Bs, C', by simp, by simpa [c1] using HRA.out, HR2.out, (List.pairwise_cons.1 HU1.out).2, HU2.out, cur_drewN HCUR.out, by rw [← comm_lt sordS HU2.out c]; exact HF.out, by simp at hl1; omega, by simp at hl2; omega⟩
          · go_wp2_with fail
            go_quiet ((go_at_call 32; exact Calls.quiet_of_same (cmp_lt _ _ _ c)))
            go_wp2
            go_roundg (As.length + (Bs.length + 1))
            case measure => have := HK.out; simp at this ⊢; omega
            case rel => exact ⟨As, y :: Bs, C', by simp, by simpa [c1] using HRA.out, HR2.out, (List.pairwise_cons.1 HU1.out).2, HU2.out, cur_drewN HCUR.out, by rw [← comm_lt sordS HU2.out c]; exact HF.out, by simp at hl1; omega, by simp at hl2; omega⟩
        · subst c
          by_cases c1 : ca = 1
          all_goals by_cases c2 : cb = 1
          all_goals
            go_wp2_with fail
            go_quiet ((go_at_call 32; exact Calls.quiet_of_same (cmp_eq _ _)))
            go_wp2_with (at_builtin; refine wpList_append_own _ rfl _ _ 36 rfl w2.heap.size 9 i0 (.string ByteArray.empty) 1 16 Try.underlying36 hi0 hz0 hz1 hz2 rfl (by decide) _ _ _ rfl ((cur_drewN (n := nq) HCUR.out).2.alloc _) ⟨wr.heap.size, 0, none⟩ 1 1 [.string x] rfl rfl (cell_one_new _ _ _) (by intro u hu; simp at hu; subst hu; rfl) (by unfold maxLen; simp at hl2; omega) (by simp at hl2; omega) (by have := (cur_drewN (n := nq) HCUR.out).1.size; simp at this ⊢; omega) ?_; intro v3 w3 hown3 hgrow3 _; have HC3 := hide (cur_append (cur_drewN (n := nq) HCUR.out) hown3 hgrow3); clear hown3 hgrow3)
            go_quiet (fail)
            go_wp2
            go_roundg (As.length + Bs.length)
            case measure => have := HK.out; simp at this ⊢; omega
            case rel => exact ⟨As, Bs, C' ++ [x], by simp, by simpa [c1] using HRA.out, by simpa [c2] using HRB.out, (List.pairwise_cons.1 HU1.out).2, (List.pairwise_cons.1 HU2.out).2, cur_drewN HC3.out, by rw [← HF.out, comm_eq sordS HU1.out]; simp, by simp at hl1; omega, by simp at hl2 ⊢; omega⟩
        · by_cases c1 : cb = 1
          · go_wp2_with fail
            go_quiet ((go_at_call 32; exact Calls.quiet_of_same (cmp_gt _ _ _ c)))
            go_wp2
            go_roundg ((As.length + 1) + Bs.length)
            case measure => have := HK.out; simp at this ⊢; omega
            case rel => exact ⟨x :: As, Bs, C', by simp, HR1.out, by simpa [c1] using HRB.out, HU1.out, (List.pairwise_cons.1 HU2.out).2, cur_drewN HCUR.out, by rw [← comm_gt sordS HU1.out c]; exact HF.out, hl1, hl2⟩
          · go_wp2_with fail
            go_quiet ((go_at_call 32; exact Calls.quiet_of_same (cmp_gt _ _ _ c)))
            go_wp2
            go_roundg ((As.length + 1) + Bs.length)
            case measure => have := HK.out; simp at this ⊢; omega
            case rel => exact ⟨x :: As, Bs, C', by simp, HR1.out, by simpa [c1] using HRB.out, HU1.out, (List.pairwise_cons.1 HU2.out).2, cur_drewN HCUR.out, by rw [← comm_gt sordS HU1.out c]; exact HF.out, hl1, hl2⟩
end Go.Proofs.Ytkncboinfcnklaa.Str
