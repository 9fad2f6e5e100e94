import Derived.Test.YtkncboinfcnklaaDoorP12
namespace Go.Proofs.YtkncboinfcnklaaDoor
open Go.RowKit Go.Deep Go.Proofs.YtkncboinfcnklaaDoor.Mth

theorem rdNum_two {l : List Int} (h : Bts l) : 0 ≤ rdNum (l.take 2) ∧ rdNum (l.take 2) < 65536 := by
  match l, h with
  | [], _ => simp [rdNum]
  | [x], h =>
    have := h x (by simp)
    simp only [List.take, rdNum, List.foldl_cons, List.foldl_nil]
    rw [wrap_id _ (by omega) (by omega)]
    omega
  | x :: y :: l, h =>
    have h1 := h x (by simp)
    have h2 := h y (by simp)
    simp only [List.take, rdNum, List.foldl_cons, List.foldl_nil]
    rw [wrap_id (0 * 256 + x) (by omega) (by omega), wrap_id _ (by omega) (by omega)]
    omega

set_option maxRecDepth 100000 in
set_option maxHeartbeats 1000000 in
theorem readE_any (v : Value) (l : List Int) (w : World) (h : RdB w v l) (hl : Bts l) :
    Calls Tryd.prog 13 #[v] w fun e w' => ∃ v', e = .returned v' ∧ CurE w w' v' (rdAll l) := by
  have HR0 := hide (rdr_new h)
  have HB0 := hide (below_alloc w (.cells #[v] 50))
  have hn2 := rdNum_two hl
  obtain ⟨a, c, rfl, hc, hm⟩ := rdB_len h
  obtain ⟨i0, hi0, hz0, hz1, hz2⟩ := info_parts Tryd.info31
  clear h
  have hW1 : w.heap.size < (w.alloc (.cells #[.slice a l.length c] 50)).heap.size := by simp
  go_enter Tryd.func13, Tryd.ntmps13
  go_wp2_with fail
  have CN := hide (number_any w.heap.size 2 w.heap.size l _ HR0.out hl (by omega))
  generalize w.alloc (.cells #[.slice a l.length c] 50) = W1 at *
  refine CN.out.mono ?_
  rintro e w2 ⟨rfl, ⟨u2, hw2⟩, hr2⟩
  have HR2 := hide hr2
  have HB2 : Hid (Below w.heap.size w w2) := by rw [hw2]; exact HB0.out.setCell (Nat.le_refl _) _
  have hall : Hid (rdAll l = rdEnts (min (rdNum (l.take 2)) 64).toNat (l.drop 2)) := rfl
  have HBD := hide (bts_drop hl 2)
  clear hw2 hr2 CN HR0 HB0
  generalize rdNum (l.take 2) = N at *
  have hmin : ∃ m : Nat, min N 64 = (m : Int) ∧ m ≤ 64 := ⟨(min N 64).toNat, by omega, by omega⟩
  obtain ⟨m, hmm, hm64⟩ := hmin
  rw [hmm, Int.toNat_natCast] at hall
  generalize l.drop 2 = D at *
  go_wp2_with fail
  go_loopw [4, 9] (fun b i wr => ∃ k : Nat, k ≤ m ∧ i = .int .i64 k ∧ CurE w wr b (rdEnts k D) ∧ Rdr wr w.heap.size w.heap.size (rests k D)) (fun _ i _ => m - (intOf i).toNat)
  case atStart => exact ⟨0, Nat.zero_le _, rfl, ⟨HB2.out, World.ownsRow_nil _ _ _ _⟩, HR2.out⟩
  case round =>
    obtain ⟨k, hk, rfl, hcur, hrdr⟩ := hrel
    by_cases hlt : k < m
    · have CE := hide (entry_any w.heap.size w.heap.size (rests k D) wr hrdr (bts_rests k HBD.out))
      have HC := hide hcur
      have HRD := hide hrdr
      have hes := hide (rdEnts_succ k D)
      have hrs := hide (rests_succ k D)
      have hlen := rdEnts_len k D
      clear hcur hrdr
      go_wp2_with fail
      refine CE.out.mono ?_
      rintro e w3 ⟨rfl, hr3, hg3⟩
      have HC3 := hide (curE_reader HC.out HRD.out (Nat.le_refl _) hg3)
      have HR3 := hide hr3
      have hsz3 := HC3.out.1.size
      clear hr3 hg3 CE
      generalize rdEnt (rests k D) = E at *
      obtain ⟨s, t, x⟩ := E
      go_wp2_with (first | (at_builtin; refine wpList_append_own _ rfl _ _ 22 rfl w.heap.size 31 i0 (.agg #[.int .i64 0, .int .i64 0, .string ByteArray.empty]) 3 32 Tryd.underlying22 hi0 hz0 hz1 hz2 rfl (by decide) _ _ _ rfl (HC3.out.2.alloc _) ⟨w3.heap.size, 0, none⟩ 1 1 [.int .i64 s, .int .i64 t, .string x] rfl rfl (cell_three_new _ _ _ _ _) (by intro u hu; simp at hu; rcases hu with rfl | rfl | rfl <;> rfl) (by unfold maxLen; omega) (by omega) (by simp; omega) ?_; intro v4 w4 hown4 hgrow4 _; have HC4 := hide (curE_append (e := ⟨s, t, x⟩) HC3.out hown4 hgrow4); have HR4 := hide (rdr_append HR3.out HC3.out.2 hgrow4 hsz3); clear hown4 hgrow4))
      go_roundw
      case rel => exact ⟨k + 1, by omega, by go_num, by rw [hes.out]; exact HC4.out, by rw [hrs.out]; exact HR4.out⟩
      case measure => simp [intOf]; omega
    · have hke : k = m := by omega
      subst hke
      have HC := hide hcur
      clear hcur hrdr
      go_wp2
      go_ret
      exact ⟨_, rfl, by rw [hall.out]; exact HC.out⟩
end Go.Proofs.YtkncboinfcnklaaDoor
