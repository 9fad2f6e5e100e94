import Derived.Test.YtdcnfgllghiedaaGreatDoorR3
namespace Go.Proofs.YtdcnfgllghiedaaGreatDoor
open Go.RowKit Go.Deep Go.Proofs.YtdcnfgllghiedaaGreatDoor.Mth

set_option maxRecDepth 100000 in
set_option maxHeartbeats 1000000 in
theorem refHas_any (s x : ByteArray) (w : World) (hs : s.size ≤ 1048576) :
    Calls Tryz.prog 167 #[.string s, .string x] w fun e w' => e = .returned (.bool (memD x (wd s))) ∧ Below w.heap.size w w' := by
  have CW := hide (refWords_any s w hs)
  have hwl := wd_len s
  go_enter Tryz.func167, Tryz.ntmps167
  go_wp2_with fail
  refine CW.out.mono ?_
  rintro e w1 ⟨v1, rfl, hb1, hr1⟩
  have HB := hide hb1
  have HR := hide hr1
  obtain ⟨a, c, rfl, hc, hm⟩ := rd_len hr1
  unfold maxLen at hm
  clear hb1 hr1 CW
  generalize hL : wd s = l at *
  generalize hn : l.length = n at *
  have HN := hide hn
  have HLL := hide hL
  clear hn hL
  go_wp2_with fail
  go_loop [6] (fun i => ∃ k : Nat, k ≤ n ∧ i = .int .i64 k ∧ ¬ x ∈ l.take k) (fun i => n - (intOf i).toNat)
  case atStart => exact ⟨0, Nat.zero_le _, rfl, by simp⟩
  case round =>
    obtain ⟨k, hk, rfl, hnot⟩ := hrel
    have HX := hide hnot
    clear hnot
    by_cases hlt : k < n
    · obtain ⟨b, o, rfl, hblt, hcell⟩ := rd_at HR.out k (by rw [HN.out]; exact hlt)
      have htk : Hid (l.take (k + 1) = l.take k ++ [l.getD k ByteArray.empty]) := by
        show _ = _
        rw [List.take_succ_eq_append_getElem (by rw [HN.out]; exact hlt)]
        simp [List.getD, show k < l.length by rw [HN.out]; exact hlt]
      have hmem : Hid (l.getD k ByteArray.empty ∈ l) := by
        show _ ∈ _
        rw [List.getD, List.getElem?_eq_getElem (by rw [HN.out]; exact hlt)]
        exact List.getElem_mem _
      generalize l.getD k ByteArray.empty = y at *
      by_cases hy : y = x
      · subst hy
        go_wp2
        go_ret
        exact ⟨by rw [HLL.out, memD_true hmem.out]; rfl, HB.out⟩
      · have q1 := eqS_false hy
        have hnx : Hid (¬ x ∈ l.take (k + 1)) := by
          show ¬ _
          rw [htk.out]
          simp only [List.mem_append, List.mem_singleton]
          rintro (q | q)
          · exact HX.out q
          · exact hy q.symm
        clear hy
        go_wp2
        go_round
        case rel => exact ⟨k + 1, by omega, by go_num, hnx.out⟩
        case measure => simp [intOf]; omega
    · have htk : l.take k = l := List.take_of_length_le (by rw [HN.out]; omega)
      have hnx : Hid (¬ x ∈ l) := by have := HX.out; rwa [htk] at this
      clear htk
      go_wp2
      go_ret
      exact ⟨by rw [HLL.out, memD_false hnx.out]; rfl, HB.out⟩

theorem rnum_bd1 {b : List Int} (h : Bts b) : 0 ≤ rnum b 1 ∧ rnum b 1 < 256 := by
  have := bts_get h 0
  unfold rnum rnum wrap64
  split <;> omega

theorem rnum_bd2 {b : List Int} (h : Bts b) : 0 ≤ rnum b 2 ∧ rnum b 2 < 65536 := by
  have h1 := rnum_bd1 h
  have := bts_get h 1
  rw [rnum]
  generalize rnum b 1 = q at *
  unfold wrap64
  split <;> omega

theorem drop_getD (s : List Int) (a k : Nat) : (s.drop a).getD k 0 = s.getD (a + k) 0 := by simp [List.getD]

set_option maxRecDepth 100000 in
set_option maxHeartbeats 1000000 in
theorem refNumber_any (s : ByteArray) (at_ many : Nat) (w : World) (_hs : s.size ≤ 1048576) (ha : at_ ≤ 4194304) (hm : many ≤ 8) :
    Calls Tryz.prog 197 #[.string s, .int .i64 at_, .int .i64 many] w fun e w' => e = .returned (.int .i64 (rnum ((tb s).drop at_) many)) ∧ w' = w := by
  have HL := hide (tb_len s)
  have HBT := hide (tb_bts s)
  go_enter Tryz.func197, Tryz.ntmps197
  go_wp2_with fail
  go_loop [7, 8] (fun n i => ∃ k : Nat, k ≤ many ∧ i = .int .i64 ((at_ : Int) + k) ∧ n = .int .i64 (rnum ((tb s).drop at_) k)) (fun _ i => at_ + many - (intOf i).toNat)
  case atStart => exact ⟨0, Nat.zero_le _, by simp, rfl⟩
  case round =>
    obtain ⟨k, hk, rfl, rfl⟩ := hrel
    by_cases hlt : k < many
    · by_cases hin : at_ + k < s.size
      · have hix := idx_at s (at_ + k) hin w
        rw [Int.natCast_add] at hix
        have hx := bts_get HBT.out (at_ + k)
        have hrn : Hid (rnum ((tb s).drop at_) (k + 1) = wrap64 (wrap64 (rnum ((tb s).drop at_) k * 256) + (tb s).getD (at_ + k) 0)) := by
          show _ = _
          rw [rnum, if_pos (by rw [List.length_drop, HL.out]; omega), drop_getD]
        generalize (tb s).getD (at_ + k) 0 = x at *
        generalize rnum ((tb s).drop at_) k = q at *
        obtain ⟨x1, x2⟩ := hx
        go_wp2
        go_round
        case rel => exact ⟨k + 1, by omega, by go_num, by rw [hrn.out]⟩
        case measure => simp [intOf]; omega
      · have hrn : Hid (rnum ((tb s).drop at_) (k + 1) = wrap64 (rnum ((tb s).drop at_) k * 256)) := by
          show _ = _
          rw [rnum, if_neg (by rw [List.length_drop, HL.out]; omega)]
        generalize rnum ((tb s).drop at_) k = q at *
        go_wp2
        go_round
        case rel => exact ⟨k + 1, by omega, by go_num, by rw [hrn.out]⟩
        case measure => simp [intOf]; omega
    · have hke : k = many := by omega
      subst hke
      go_wp2
      go_ret
      exact ⟨rfl, rfl⟩
end Go.Proofs.YtdcnfgllghiedaaGreatDoor
