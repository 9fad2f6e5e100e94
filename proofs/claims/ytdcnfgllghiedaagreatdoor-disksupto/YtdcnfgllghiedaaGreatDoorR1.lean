import Derived.Test.YtdcnfgllghiedaaGreatDoorP14
import Derived.Test.YtdcnfgllghiedaaGreatDoorSMathAll
namespace Go.Proofs.YtdcnfgllghiedaaGreatDoor
open Go.RowKit Go.Deep Go.Proofs.YtdcnfgllghiedaaGreatDoor.Mth

set_option maxHeartbeats 1000000 in
theorem letter_any (c : Int) (w : World) (h0 : 0 ≤ c) (h1 : c < 256) : Calls Tryz.prog 189 #[.int .u8 c] w fun e w' => e = .returned (.int .u8 (ltr c)) ∧ w' = w := by
  go_enter Tryz.func189, Tryz.ntmps189
  go_wp2
  all_goals go_ret
  all_goals refine ⟨?_, rfl⟩
  all_goals (congr 2; unfold ltr)
  all_goals first | (rw [if_pos (by omega)]; first | rfl | omega | (simp; omega)) | (rw [if_neg (by omega), if_pos (by omega)]; first | rfl | omega) | (rw [if_neg (by omega), if_neg (by omega)]; first | rfl | omega)

/-- A text put into a list. -/
def putS (x : ByteArray) (l : List ByteArray) : List ByteArray := if memD x l then l else ins ltS x l

theorem putS_len (x : ByteArray) (l : List ByteArray) : (putS x l).length ≤ l.length + 1 := by
  unfold putS
  split
  · omega
  · rw [ins_len]; omega
theorem putS_mem (x : ByteArray) (l : List ByteArray) (z : ByteArray) : z ∈ putS x l ↔ z = x ∨ z ∈ l := by
  unfold putS
  split
  · rename_i h
    have := memD_iff.1 h
    constructor
    · exact Or.inr
    · rintro (rfl | h) <;> assumption
  · exact ins_mem x l z
theorem putS_up (x : ByteArray) (l : List ByteArray) (h : l.Pairwise ltS) : (putS x l).Pairwise ltS := by
  unfold putS
  split
  · exact h
  · rename_i c
    exact ins_up sordS x l h (fun q => c (memD_true q))

theorem rd_at {w : World} {a : Option Addr} {n c : Nat} {l : List ByteArray} (h : Rd w (.slice a n c) l) (j : Nat) (hj : j < l.length) : ∃ b o, a = some ⟨b, o, none⟩ ∧ b < w.heap.size ∧ w.cell? ⟨b, o + j, none⟩ = some (.string (l.getD j ByteArray.empty)) := by
  obtain ⟨a', c', e, hc, hm, hz, h⟩ := h
  injection e with e1 e2 e3
  rcases h with h | ⟨b, o, e4, h⟩
  · subst h; simp at hj
  · exact ⟨b, o, e1.trans e4, World.block_lt_of_cell? _ _ (h j hj), h j hj⟩

theorem drop_get {α : Type} {l : List α} {k : Nat} (h : k < l.length) (z : α) : l.drop k = l.getD k z :: l.drop (k + 1) := by
  rw [List.drop_eq_getElem_cons h]
  simp [List.getD, h]

theorem eqS_false {x y : ByteArray} (h : y ≠ x) : (y.toList == x.toList) = false := by rw [eq_eq]; simpa using h
theorem ltS_bool {x y : ByteArray} (h : ltS x y) : Op.bytesLess x.toList y.toList = true := by rw [less_eq]; simpa using h
theorem ltS_no {x y : ByteArray} (h : ¬ ltS x y) : Op.bytesLess x.toList y.toList = false := by rw [less_eq]; simpa using h

set_option maxRecDepth 100000 in
set_option maxHeartbeats 4000000 in
theorem putText_core (a : Option Addr) (c : Nat) (l : List ByteArray) (x : ByteArray) (w : World) (h : Rd w (.slice a l.length c) l) (hl : l.length ≤ 4194304) :
    Calls Tryz.prog 166 #[.slice a l.length c, .string x] w fun e w' => ∃ v', e = .returned (.tuple #[v', .bool (!memD x l)]) ∧ Below w.heap.size w w' ∧ Rd w' v' (putS x l) := by
  have HR := hide h
  obtain ⟨i0, hi0, hz0, hz1, hz2⟩ := info_parts Tryz.info9
  have hcm : l.length ≤ c ∧ c ≤ maxLen := by obtain ⟨a', c', e, q1, q2, _⟩ := h; injection e with _ _ e; subst e; exact ⟨q1, q2⟩
  obtain ⟨hc, hm⟩ := hcm
  unfold maxLen at hm
  clear h
  generalize hn : l.length = n at *
  have HN := hide hn
  clear hn
  go_enter Tryz.func166, Tryz.ntmps166
  go_wp2_with fail
  go_loopw [6, 7, 8] (fun o d i wr => ∃ (k : Nat) (dn : Bool) (m : List ByteArray), k ≤ n ∧ i = .int .i64 k ∧ d = .bool dn ∧ Cur w wr o m ∧ m.length ≤ k + dn.toNat ∧ insTo ltS x dn m (l.drop k) = ins ltS x l ∧ ¬ x ∈ l.take k) (fun _ _ i _ => n - (intOf i).toNat)
  case atStart => exact ⟨0, false, [], Nat.zero_le _, rfl, rfl, ⟨Below.refl _ _, World.ownsRow_nil _ _ _ _⟩, by simp, by simp [insTo], by simp⟩
  case round =>
    obtain ⟨k, dn, m, hk, rfl, rfl, hcur, hml, hins, hnot⟩ := hrel
    have HC := hide hcur
    have HI := hide hins
    have HX := hide hnot
    have hsz := hcur.1.size
    clear hcur hins hnot
    by_cases hlt : k < n
    · obtain ⟨b, o, rfl, hblt, hcell⟩ := rd_at HR.out k (by rw [HN.out]; exact hlt)
      have hcell' := (HC.out.1.cell (p := ⟨b, o + k, none⟩) hblt).trans hcell
      have hdr := hide (drop_get (l := l) (k := k) (by rw [HN.out]; exact hlt) ByteArray.empty)
      have htk : Hid (l.take (k + 1) = l.take k ++ [l.getD k ByteArray.empty]) := by
        show _ = _
        rw [List.take_succ_eq_append_getElem (by rw [HN.out]; exact hlt)]
        simp [List.getD, show k < l.length by rw [HN.out]; exact hlt]
      have hmem : Hid (l.getD k ByteArray.empty ∈ l) := by
        show _ ∈ _
        rw [List.getD, List.getElem?_eq_getElem (by rw [HN.out]; exact hlt)]
        exact List.getElem_mem _
      generalize l.getD k ByteArray.empty = y at *
      clear hcell
      by_cases hy : y = x
      · subst hy
        go_wp2
        go_ret2
        refine ⟨_, by rw [memD_true hmem.out]; rfl, HC.out.1, ?_⟩
        unfold putS
        rw [if_pos (memD_true hmem.out)]
        exact HR.out.below HC.out.1
      · have q1 := eqS_false hy
        have hnx : Hid (¬ x ∈ l.take (k + 1)) := by
          show ¬ _
          rw [htk.out]
          simp only [List.mem_append, List.mem_singleton]
          rintro (q | q)
          · exact HX.out q
          · exact hy q.symm
        have HY := hide hy
        clear hy
        cases dn with
        | true =>
          simp only [Bool.toNat_true] at hml
          go_wp2_with (at_builtin; refine wpList_append_own _ rfl (.tmp 36) (.tmp 41) 58 rfl w.heap.size 9 i0 (.string ByteArray.empty) 1 16 Tryz.underlying58 hi0 hz0 hz1 hz2 rfl (by decide) _ _ _ rfl (HC.out.2.alloc _) ⟨wr.heap.size, 0, none⟩ 1 1 [.string y] rfl rfl (cell_one_new _ _ _) (by intro u hu; simp at hu; subst hu; rfl) (by unfold maxLen; omega) (by omega) (by simp; omega) ?_; intro v3 w3 hown3 hgrow3 _; have HC3 := hide (cur_append HC.out hown3 hgrow3); clear hown3 hgrow3)
          go_roundw
          case rel => exact ⟨k + 1, true, m ++ [y], by omega, by go_num, rfl, HC3.out, by rw [List.length_append, List.length_singleton, Bool.toNat_true]; omega, by rw [← HI.out, hdr.out, insTo_done], hnx.out⟩
          case measure => simp [intOf]; omega
        | false =>
          simp only [Bool.toNat_false] at hml
          by_cases hxy : ltS x y
          · have q2 := ltS_bool hxy
            have q3 := ltS_no (x := y) (y := x) (fun q => sordS.irr _ (sordS.tr _ _ _ hxy q))
            have HXY := hide hxy
            clear hxy
            go_wp2_with (first
              | (at_builtin; refine wpList_append_own _ rfl (.tmp 32) (.tmp 34) 58 rfl w.heap.size 9 i0 (.string ByteArray.empty) 1 16 Tryz.underlying58 hi0 hz0 hz1 hz2 rfl (by decide) _ _ _ rfl (HC.out.2.alloc _) ⟨wr.heap.size, 0, none⟩ 1 1 [.string x] rfl rfl (cell_one_new _ _ _) (by intro u hu; simp at hu; subst hu; rfl) (by unfold maxLen; omega) (by omega) (by simp; omega) ?_; intro v3 w3 hown3 hgrow3 _; have HC3 := hide (cur_append HC.out hown3 hgrow3); have hcell3 := (HC3.out.1.cell (p := ⟨b, o + k, none⟩) hblt).trans ((HC.out.1.cell (p := ⟨b, o + k, none⟩) hblt).symm.trans hcell'); have hsz3 := HC3.out.1.size; clear hown3 hgrow3)
              | (at_builtin; refine wpList_append_own _ rfl (.tmp 36) (.tmp 41) 58 rfl w.heap.size 9 i0 (.string ByteArray.empty) 1 16 Tryz.underlying58 hi0 hz0 hz1 hz2 rfl (by decide) _ _ _ rfl (HC3.out.2.alloc _) ⟨w3.heap.size, 0, none⟩ 1 1 [.string y] rfl rfl (cell_one_new _ _ _) (by intro u hu; simp at hu; subst hu; rfl) (by unfold maxLen; simp only [List.length_append, List.length_singleton]; omega) (by simp only [List.length_append, List.length_singleton]; omega) (by simp; omega) ?_; intro v4 w4 hown4 hgrow4 _; have HC4 := hide (cur_append HC3.out hown4 hgrow4); clear hown4 hgrow4))
            go_roundw
            case rel => exact ⟨k + 1, true, m ++ [x] ++ [y], by omega, by go_num, rfl, HC4.out, by simp only [List.length_append, List.length_singleton, Bool.toNat_true]; omega, by rw [← HI.out, hdr.out, insTo_here HXY.out], hnx.out⟩
            case measure => simp [intOf]; omega
          · have q2 := ltS_no hxy
            have q3 := ltS_bool (x := y) (y := x) ((sordS.tri x y).resolve_left hxy |>.resolve_left (fun q => HY.out q.symm))
            have HXY := hide hxy
            clear hxy
            go_wp2_with (at_builtin; refine wpList_append_own _ rfl (.tmp 36) (.tmp 41) 58 rfl w.heap.size 9 i0 (.string ByteArray.empty) 1 16 Tryz.underlying58 hi0 hz0 hz1 hz2 rfl (by decide) _ _ _ rfl (HC.out.2.alloc _) ⟨wr.heap.size, 0, none⟩ 1 1 [.string y] rfl rfl (cell_one_new _ _ _) (by intro u hu; simp at hu; subst hu; rfl) (by unfold maxLen; omega) (by omega) (by simp; omega) ?_; intro v3 w3 hown3 hgrow3 _; have HC3 := hide (cur_append HC.out hown3 hgrow3); clear hown3 hgrow3)
            go_roundw
            case rel => exact ⟨k + 1, false, m ++ [y], by omega, by go_num, rfl, HC3.out, by rw [List.length_append, List.length_singleton, Bool.toNat_false]; omega, by rw [← HI.out, hdr.out, insTo_on HXY.out], hnx.out⟩
            case measure => simp [intOf]; omega
    · have hke : k = n := by omega
      subst hke
      have hdr : l.drop k = [] := List.drop_eq_nil_of_le (by rw [HN.out]; exact Nat.le_refl _)
      have htk : l.take k = l := List.take_of_length_le (by rw [HN.out]; exact Nat.le_refl _)
      have hnx : Hid (¬ x ∈ l) := by have := HX.out; rwa [htk] at this
      have hput : Hid (putS x l = ins ltS x l) := by
        show _ = _
        unfold putS
        rw [if_neg (fun q => hnx.out (memD_iff.1 q))]
      have hend := HI.out
      rw [hdr] at hend
      have HE := hide hend
      clear hend hdr htk
      cases dn with
      | true =>
        simp only [Bool.toNat_true] at hml
        go_wp2
        go_ret2
        refine ⟨_, by rw [memD_false hnx.out]; rfl, HC.out.1, ?_⟩
        rw [hput.out, ← HE.out, (insTo_end x m).1]
        exact rd_own HC.out.2
      | false =>
        simp only [Bool.toNat_false] at hml
        go_wp2_with (at_builtin; refine wpList_append_own _ rfl (.tmp 45) (.tmp 47) 58 rfl w.heap.size 9 i0 (.string ByteArray.empty) 1 16 Tryz.underlying58 hi0 hz0 hz1 hz2 rfl (by decide) _ _ _ rfl (HC.out.2.alloc _) ⟨wr.heap.size, 0, none⟩ 1 1 [.string x] rfl rfl (cell_one_new _ _ _) (by intro u hu; simp at hu; subst hu; rfl) (by unfold maxLen; omega) (by omega) (by simp; omega) ?_; intro v3 w3 hown3 hgrow3 _; have HC3 := hide (cur_append HC.out hown3 hgrow3); clear hown3 hgrow3)
        go_ret2
        refine ⟨_, by rw [memD_false hnx.out]; rfl, HC3.out.1, ?_⟩
        rw [hput.out, ← HE.out, (insTo_end x m).2]
        exact rd_own HC3.out.2

theorem putText_any {v : Value} {l : List ByteArray} (x : ByteArray) {w : World} (h : Rd w v l) (hl : l.length ≤ 4194304) :
    Calls Tryz.prog 166 #[v, .string x] w fun e w' => ∃ v', e = .returned (.tuple #[v', .bool (!memD x l)]) ∧ Below w.heap.size w w' ∧ Rd w' v' (putS x l) := by
  obtain ⟨a, c, rfl, _, _⟩ := rd_len h
  exact putText_core a c l x w h hl
end Go.Proofs.YtdcnfgllghiedaaGreatDoor
