import Derived.Test.YtdcnfgllghiedaaGreatDoorR1
import Derived.Laws.Concat
namespace Go.Proofs.YtdcnfgllghiedaaGreatDoor
open Go.RowKit Go.Deep Go.Proofs.YtdcnfgllghiedaaGreatDoor.Mth

theorem idx_at (s : ByteArray) (k : Nat) (h : k < s.size) (w : World) : (Instr.index 9 (.string s) (.int .i64 (k : Int))).run Tryz.prog w = .ok (.int .u8 ((tb s).getD k 0)) w := by
  rw [run_index_string (P := Tryz.prog) w 9 s .i64 (k : Int) Tryz.underlying9, dif_pos ⟨by omega, by omega⟩, tb_get s k h]
  congr 3
  have hk : k < s.data.size := h
  simp [List.getD, Array.getElem?_eq_getElem hk]
  rfl

theorem size_nums (l : List Int) : (strOfNums l).size = l.length := by
  unfold strOfNums
  simp [ByteArray.size]

theorem nums_app (a b : List Int) : strOfNums a ++ strOfNums b = strOfNums (a ++ b) := by
  apply bytes_ext
  rw [ByteArray.data_append, Array.toList_append]
  unfold strOfNums
  simp

theorem add_at (a b : List Int) (w : World) (h : a.length + b.length ≤ 1000000000) : (Op.stringOp .add (strOfNums a) (strOfNums b)).run Tryz.prog w = .ok (.string (strOfNums (a ++ b))) w := by
  rw [run_string_add_sum (P := Tryz.prog) w _ _ (by rw [size_nums, size_nums]; omega), nums_app]

/-- One byte, as a text. -/
theorem conv_one (w : World) (x : Int) : (convert 158 9 (.slice (some ⟨w.heap.size, 0, none⟩) 1 1)).run Tryz.prog (w.alloc (.cells #[.int .u8 x] 5)) = .ok (.string (strOfNums [x])) (w.alloc (.cells #[.int .u8 x] 5)) := by
  refine run_convert_bytes_arg (P := Tryz.prog) _ 158 5 Tryz.underlying158 Tryz.underlying5 w.heap.size 0 1 1 [x] rfl (fun i hi => ?_) 9 Tryz.underlying9
  have : i = 0 := by omega
  subst this
  have := cell_one_new w (.int .u8 x) 5 0 (.int .u8 x) rfl
  rwa [show (⟨w.heap.size, 0, none⟩ : Addr).add 0 = ⟨w.heap.size, 0 + 0, none⟩ from by unfold Addr.add; split <;> simp_all] at this

theorem div_pow (n : Int) (k : Nat) : n / 256 ^ k / 256 = n / 256 ^ (k + 1) := by
  rw [Int.ediv_ediv_of_nonneg (Int.pow_nonneg (by omega)), Int.pow_succ]

set_option maxRecDepth 100000 in
set_option maxHeartbeats 1000000 in
theorem refBytes_any (n : Int) (many : Nat) (w : World) (h0 : 0 ≤ n) (_h1 : n < 9223372036854775808) (hm : many ≤ 8) :
    Calls Tryz.prog 165 #[.int .i64 n, .int .i64 many] w fun e w' => e = .returned (.string (strOfNums (num n many))) ∧ Below w.heap.size w w' := by
  go_enter Tryz.func165, Tryz.ntmps165
  go_wp2_with fail
  go_loopw [0, 5, 6] (fun nv s i wr => ∃ k : Nat, k ≤ many ∧ i = .int .i64 k ∧ nv = .int .i64 (n / 256 ^ k) ∧ s = .string (strOfNums (num n k)) ∧ Below w.heap.size w wr) (fun _ _ i _ => many - (intOf i).toNat)
  case atStart => exact ⟨0, Nat.zero_le _, rfl, by simp, by simp [num, strOfNums], Below.refl _ _⟩
  case round =>
    obtain ⟨k, hk, rfl, rfl, rfl, hb⟩ := hrel
    by_cases hlt : k < many
    · have hnum : Hid (num n (k + 1) = (n / 256 ^ k % 256) :: num n k) := rfl
      have hdp := hide (div_pow n k)
      have hnl := num_len n k
      have e0 : 0 ≤ n / 256 ^ k := Int.ediv_nonneg h0 (Int.pow_nonneg (by omega))
      have e1 : n / 256 ^ k ≤ n := Int.ediv_le_self _ h0
      generalize n / 256 ^ k = q at *
      have hcv := conv_one wr (q % 256)
      have hadd := add_at [q % 256] (num n k) (wr.alloc (.cells #[.int .u8 (q % 256)] 5)) (by rw [hnl]; simp; omega)
      have HB := hide (hb.trans ((below_alloc wr (.cells #[.int .u8 (q % 256)] 5)).mono hb.size))
      clear hb
      go_wp2
      go_roundw
      case rel => exact ⟨k + 1, by omega, by go_num, by rw [← hdp.out], by rw [hnum.out], HB.out⟩
      case measure => simp [intOf]; omega
    · have hke : k = many := by omega
      subst hke
      have HB := hide hb
      clear hb
      go_wp2
      go_ret
      exact ⟨rfl, HB.out⟩

set_option maxRecDepth 100000 in
set_option maxHeartbeats 1000000 in
theorem refSum_any (s : ByteArray) (w : World) (hs : s.size ≤ 1048576) :
    Calls Tryz.prog 168 #[.string s] w fun e w' => e = .returned (.int .i64 (sumv (tb s))) ∧ w' = w := by
  have HL := hide (tb_len s)
  have HBT := hide (tb_bts s)
  have HRC := hide (refC_sm (tb s))
  go_enter Tryz.func168, Tryz.ntmps168
  go_wp2_with fail
  go_loop [3, 4, 5] (fun p q i => ∃ k : Nat, k ≤ s.size ∧ i = .int .i64 k ∧ ∃ A C : Int, p = .int .i64 A ∧ q = .int .i64 C ∧ 0 ≤ A ∧ A < 65521 ∧ 0 ≤ C ∧ C < 65521 ∧ A = (sm ((tb s).take k)).1 ∧ refC C ((tb s).drop k) = (sm (tb s)).2) (fun _ _ i => s.size - (intOf i).toNat)
  case atStart =>
    refine ⟨0, Nat.zero_le _, rfl, 1, (s.size : Int) % 65521, rfl, by first | rfl | go_num, by omega, by omega, by omega, by omega, rfl, ?_⟩
    have := HRC.out
    rw [HL.out] at this
    simpa using this
  case round =>
    obtain ⟨k, hk, rfl, A, C, rfl, rfl, h1, h2, h3, h4, hA, hC⟩ := hrel
    have HA := hide hA
    have HCC := hide hC
    clear hA hC
    by_cases hlt : k < s.size
    · have hix := idx_at s k hlt w
      have hx := bts_get HBT.out k
      have hst := hide (sm_take (l := tb s) (k := k) (by rw [HL.out]; exact hlt))
      have hdr := hide (drop_get (l := tb s) (k := k) (by rw [HL.out]; exact hlt) 0)
      have hdl : Hid (((((tb s).drop (k + 1)).length : Nat) : Int) + 1 = (s.size : Int) - k) := by
        show _ = _
        rw [List.length_drop, HL.out]
        omega
      generalize (tb s).getD k 0 = x at *
      obtain ⟨x1, x2⟩ := hx
      have hr0 : 0 ≤ ((s.size : Int) - k) % 65521 := by omega
      have hr1 : ((s.size : Int) - k) % 65521 < 65521 := by omega
      have hmul0 : 0 ≤ x * (((s.size : Int) - k) % 65521) := Int.mul_nonneg x1 hr0
      have hmul1 : x * (((s.size : Int) - k) % 65521) ≤ 256 * 65521 := Int.mul_le_mul (by omega) (by omega) hr0 (by omega)
      go_wp2
      go_round
      case rel =>
        refine ⟨k + 1, by omega, by go_num, (A + x) % 65521, (C + x * (((s.size : Int) - k) % 65521)) % 65521, by go_num, by go_num, by omega, by omega, by omega, by omega, ?_, ?_⟩
        · rw [hst.out, HA.out]; rfl
        · have := HCC.out
          rw [hdr.out, refC, hdl.out] at this
          exact this
      case measure => simp [intOf]; omega
    · have hke : k = s.size := by omega
      have hfull : (tb s).take k = tb s := List.take_of_length_le (by rw [HL.out]; omega)
      have hdr : (tb s).drop k = [] := List.drop_eq_nil_of_le (by rw [HL.out]; omega)
      have e1 := HA.out
      have e2 := HCC.out
      rw [hfull] at e1
      rw [hdr, refC] at e2
      have hsv : Hid (sumv (tb s) = 65536 * C + A) := by
        show _ = _
        unfold sumv
        rw [e1, e2]
      clear e1 e2 HA HCC hfull hdr
      go_wp2
      go_ret
      exact ⟨by rw [hsv.out]; first | rfl | go_num, rfl⟩
end Go.Proofs.YtdcnfgllghiedaaGreatDoor
