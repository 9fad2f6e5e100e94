import Derived.Test.YtkncboinfcnklaaGreatDoorPb
import Derived.Test.YtkncboinfcnklaaGreatDoorSMathAll
import Derived.Laws.Concat
import Derived.Laws.Strings2
namespace Go.Proofs.YtkncboinfcnklaaGreatDoor
open Go.RowKit Go.Deep Go.Proofs.YtkncboinfcnklaaGreatDoor.Mth

set_option maxHeartbeats 1000000 in
theorem letter_any (c : Int) (w : World) (h0 : 0 ≤ c) (h1 : c < 256) : Calls Tryz.prog 189 #[.int .u8 c] w fun e w' => e = .returned (.int .u8 (ltr c)) ∧ w' = w := by
  go_enter Tryz.func189, Tryz.ntmps189
  go_wp2
  all_goals go_ret
  all_goals refine ⟨?_, rfl⟩
  all_goals (congr 2; unfold ltr)
  all_goals first | (rw [if_pos (by omega)]; first | rfl | omega | (simp; omega)) | (rw [if_neg (by omega), if_pos (by omega)]; first | rfl | omega) | (rw [if_neg (by omega), if_neg (by omega)]; first | rfl | omega)

/-- A text put into a list. -/
def putS (x : ByteArray) (l : List ByteArray) : List ByteArray := if memD x l then l else ins ltS x l

theorem putS_len (x : ByteArray) (l : List ByteArray) : (putS x l).length ≤ l.length + 1 := by
  unfold putS
  split
  · omega
  · rw [ins_len]; omega
theorem putS_mem (x : ByteArray) (l : List ByteArray) (z : ByteArray) : z ∈ putS x l ↔ z = x ∨ z ∈ l := by
  unfold putS
  split
  · rename_i h
    have := memD_iff.1 h
    constructor
    · exact Or.inr
    · rintro (rfl | h) <;> assumption
  · exact ins_mem x l z
theorem putS_up (x : ByteArray) (l : List ByteArray) (h : l.Pairwise ltS) : (putS x l).Pairwise ltS := by
  unfold putS
  split
  · exact h
  · rename_i c
    exact ins_up sordS x l h (fun q => c (memD_true q))

theorem rd_at {w : World} {a : Option Addr} {n c : Nat} {l : List ByteArray} (h : Rd w (.slice a n c) l) (j : Nat) (hj : j < l.length) : ∃ b o, a = some ⟨b, o, none⟩ ∧ b < w.heap.size ∧ w.cell? ⟨b, o + j, none⟩ = some (.string (l.getD j ByteArray.empty)) := by
  obtain ⟨a', c', e, hc, hm, hz, h⟩ := h
  injection e with e1 e2 e3
  rcases h with h | ⟨b, o, e4, h⟩
  · subst h; simp at hj
  · exact ⟨b, o, e1.trans e4, World.block_lt_of_cell? _ _ (h j hj), h j hj⟩

theorem drop_get {α : Type} {l : List α} {k : Nat} (h : k < l.length) (z : α) : l.drop k = l.getD k z :: l.drop (k + 1) := by
  rw [List.drop_eq_getElem_cons h]
  simp [List.getD, h]

theorem eqS_false {x y : ByteArray} (h : y ≠ x) : (y.toList == x.toList) = false := by rw [eq_eq]; simpa using h
theorem ltS_bool {x y : ByteArray} (h : ltS x y) : Op.bytesLess x.toList y.toList = true := by rw [less_eq]; simpa using h
theorem ltS_no {x y : ByteArray} (h : ¬ ltS x y) : Op.bytesLess x.toList y.toList = false := by rw [less_eq]; simpa using h

set_option maxRecDepth 100000 in
set_option maxHeartbeats 4000000 in
theorem putText_core (a : Option Addr) (c : Nat) (l : List ByteArray) (x : ByteArray) (w : World) (h : Rd w (.slice a l.length c) l) (hl : l.length ≤ 4194304) :
    Calls Tryz.prog 166 #[.slice a l.length c, .string x] w fun e w' => ∃ v', e = .returned (.tuple #[v', .bool (!memD x l)]) ∧ Below w.heap.size w w' ∧ Rd w' v' (putS x l) := by
  have HR := hide h
  obtain ⟨i0, hi0, hz0, hz1, hz2⟩ := info_parts Tryz.info9
  have hcm : l.length ≤ c ∧ c ≤ maxLen := by obtain ⟨a', c', e, q1, q2, _⟩ := h; injection e with _ _ e; subst e; exact ⟨q1, q2⟩
  obtain ⟨hc, hm⟩ := hcm
  unfold maxLen at hm
  clear h
  generalize hn : l.length = n at *
  have HN := hide hn
  clear hn
  go_enter Tryz.func166, Tryz.ntmps166
  go_wp2_with fail
  go_loopw [6, 7, 8] (fun o d i wr => ∃ (k : Nat) (dn : Bool) (m : List ByteArray), k ≤ n ∧ i = .int .i64 k ∧ d = .bool dn ∧ Cur w wr o m ∧ m.length ≤ k + dn.toNat ∧ insTo ltS x dn m (l.drop k) = ins ltS x l ∧ ¬ x ∈ l.take k) (fun _ _ i _ => n - (intOf i).toNat)
  case atStart => exact ⟨0, false, [], Nat.zero_le _, rfl, rfl, ⟨Below.refl _ _, World.ownsRow_nil _ _ _ _⟩, by simp, by simp [insTo], by simp⟩
  case round =>
    obtain ⟨k, dn, m, hk, rfl, rfl, hcur, hml, hins, hnot⟩ := hrel
    have HC := hide hcur
    have HI := hide hins
    have HX := hide hnot
    have hsz := hcur.1.size
    clear hcur hins hnot
    by_cases hlt : k < n
    · obtain ⟨b, o, rfl, hblt, hcell⟩ := rd_at HR.out k (by rw [HN.out]; exact hlt)
      have hcell' := (HC.out.1.cell (p := ⟨b, o + k, none⟩) hblt).trans hcell
      have hdr := hide (drop_get (l := l) (k := k) (by rw [HN.out]; exact hlt) ByteArray.empty)
      have htk : Hid (l.take (k + 1) = l.take k ++ [l.getD k ByteArray.empty]) := by
        show _ = _
        rw [List.take_succ_eq_append_getElem (by rw [HN.out]; exact hlt)]
        simp [List.getD, show k < l.length by rw [HN.out]; exact hlt]
      have hmem : Hid (l.getD k ByteArray.empty ∈ l) := by
        show _ ∈ _
        rw [List.getD, List.getElem?_eq_getElem (by rw [HN.out]; exact hlt)]
        exact List.getElem_mem _
      generalize l.getD k ByteArray.empty = y at *
      clear hcell
      by_cases hy : y = x
      · subst hy
        go_wp2
        go_ret2
        refine ⟨_, by rw [memD_true hmem.out]; rfl, HC.out.1, ?_⟩
        unfold putS
        rw [if_pos (memD_true hmem.out)]
        exact HR.out.below HC.out.1
      · have q1 := eqS_false hy
        have hnx : Hid (¬ x ∈ l.take (k + 1)) := by
          show ¬ _
          rw [htk.out]
          simp only [List.mem_append, List.mem_singleton]
          rintro (q | q)
          · exact HX.out q
          · exact hy q.symm
        have HY := hide hy
        clear hy
        cases dn with
        | true =>
          simp only [Bool.toNat_true] at hml
          go_wp2_with (at_builtin; refine wpList_append_own _ rfl (.tmp 36) (.tmp 41) 58 rfl w.heap.size 9 i0 (.string ByteArray.empty) 1 16 Tryz.underlying58 hi0 hz0 hz1 hz2 rfl (by decide) _ _ _ rfl (HC.out.2.alloc _) ⟨wr.heap.size, 0, none⟩ 1 1 [.string y] rfl rfl (cell_one_new _ _ _) (by intro u hu; simp at hu; subst hu; rfl) (by unfold maxLen; omega) (by omega) (by simp; omega) ?_; intro v3 w3 hown3 hgrow3 _; have HC3 := hide (cur_append HC.out hown3 hgrow3); clear hown3 hgrow3)
          go_roundw
          case rel => exact ⟨k + 1, true, m ++ [y], by omega, by go_num, rfl, HC3.out, by rw [List.length_append, List.length_singleton, Bool.toNat_true]; omega, by rw [← HI.out, hdr.out, insTo_done], hnx.out⟩
          case measure => simp [intOf]; omega
        | false =>
          simp only [Bool.toNat_false] at hml
          by_cases hxy : ltS x y
          · have q2 := ltS_bool hxy
            have q3 := ltS_no (x := y) (y := x) (fun q => sordS.irr _ (sordS.tr _ _ _ hxy q))
            have HXY := hide hxy
            clear hxy
            go_wp2_with (first
              | (at_builtin; refine wpList_append_own _ rfl (.tmp 32) (.tmp 34) 58 rfl w.heap.size 9 i0 (.string ByteArray.empty) 1 16 Tryz.underlying58 hi0 hz0 hz1 hz2 rfl (by decide) _ _ _ rfl (HC.out.2.alloc _) ⟨wr.heap.size, 0, none⟩ 1 1 [.string x] rfl rfl (cell_one_new _ _ _) (by intro u hu; simp at hu; subst hu; rfl) (by unfold maxLen; omega) (by omega) (by simp; omega) ?_; intro v3 w3 hown3 hgrow3 _; have HC3 := hide (cur_append HC.out hown3 hgrow3); have hcell3 := (HC3.out.1.cell (p := ⟨b, o + k, none⟩) hblt).trans ((HC.out.1.cell (p := ⟨b, o + k, none⟩) hblt).symm.trans hcell'); have hsz3 := HC3.out.1.size; clear hown3 hgrow3)
              | (at_builtin; refine wpList_append_own _ rfl (.tmp 36) (.tmp 41) 58 rfl w.heap.size 9 i0 (.string ByteArray.empty) 1 16 Tryz.underlying58 hi0 hz0 hz1 hz2 rfl (by decide) _ _ _ rfl (HC3.out.2.alloc _) ⟨w3.heap.size, 0, none⟩ 1 1 [.string y] rfl rfl (cell_one_new _ _ _) (by intro u hu; simp at hu; subst hu; rfl) (by unfold maxLen; simp only [List.length_append, List.length_singleton]; omega) (by simp only [List.length_append, List.length_singleton]; omega) (by simp; omega) ?_; intro v4 w4 hown4 hgrow4 _; have HC4 := hide (cur_append HC3.out hown4 hgrow4); clear hown4 hgrow4))
            go_roundw
            case rel => exact ⟨k + 1, true, m ++ [x] ++ [y], by omega, by go_num, rfl, HC4.out, by simp only [List.length_append, List.length_singleton, Bool.toNat_true]; omega, by rw [← HI.out, hdr.out, insTo_here HXY.out], hnx.out⟩
            case measure => simp [intOf]; omega
          · have q2 := ltS_no hxy
            have q3 := ltS_bool (x := y) (y := x) ((sordS.tri x y).resolve_left hxy |>.resolve_left (fun q => HY.out q.symm))
            have HXY := hide hxy
            clear hxy
            go_wp2_with (at_builtin; refine wpList_append_own _ rfl (.tmp 36) (.tmp 41) 58 rfl w.heap.size 9 i0 (.string ByteArray.empty) 1 16 Tryz.underlying58 hi0 hz0 hz1 hz2 rfl (by decide) _ _ _ rfl (HC.out.2.alloc _) ⟨wr.heap.size, 0, none⟩ 1 1 [.string y] rfl rfl (cell_one_new _ _ _) (by intro u hu; simp at hu; subst hu; rfl) (by unfold maxLen; omega) (by omega) (by simp; omega) ?_; intro v3 w3 hown3 hgrow3 _; have HC3 := hide (cur_append HC.out hown3 hgrow3); clear hown3 hgrow3)
            go_roundw
            case rel => exact ⟨k + 1, false, m ++ [y], by omega, by go_num, rfl, HC3.out, by rw [List.length_append, List.length_singleton, Bool.toNat_false]; omega, by rw [← HI.out, hdr.out, insTo_on HXY.out], hnx.out⟩
            case measure => simp [intOf]; omega
    · have hke : k = n := by omega
      subst hke
      have hdr : l.drop k = [] := List.drop_eq_nil_of_le (by rw [HN.out]; exact Nat.le_refl _)
      have htk : l.take k = l := List.take_of_length_le (by rw [HN.out]; exact Nat.le_refl _)
      have hnx : Hid (¬ x ∈ l) := by have := HX.out; rwa [htk] at this
      have hput : Hid (putS x l = ins ltS x l) := by
        show _ = _
        unfold putS
        rw [if_neg (fun q => hnx.out (memD_iff.1 q))]
      have hend := HI.out
      rw [hdr] at hend
      have HE := hide hend
      clear hend hdr htk
      cases dn with
      | true =>
        simp only [Bool.toNat_true] at hml
        go_wp2
        go_ret2
        refine ⟨_, by rw [memD_false hnx.out]; rfl, HC.out.1, ?_⟩
        rw [hput.out, ← HE.out, (insTo_end x m).1]
        exact rd_own HC.out.2
      | false =>
        simp only [Bool.toNat_false] at hml
        go_wp2_with (at_builtin; refine wpList_append_own _ rfl (.tmp 45) (.tmp 47) 58 rfl w.heap.size 9 i0 (.string ByteArray.empty) 1 16 Tryz.underlying58 hi0 hz0 hz1 hz2 rfl (by decide) _ _ _ rfl (HC.out.2.alloc _) ⟨wr.heap.size, 0, none⟩ 1 1 [.string x] rfl rfl (cell_one_new _ _ _) (by intro u hu; simp at hu; subst hu; rfl) (by unfold maxLen; omega) (by omega) (by simp; omega) ?_; intro v3 w3 hown3 hgrow3 _; have HC3 := hide (cur_append HC.out hown3 hgrow3); clear hown3 hgrow3)
        go_ret2
        refine ⟨_, by rw [memD_false hnx.out]; rfl, HC3.out.1, ?_⟩
        rw [hput.out, ← HE.out, (insTo_end x m).2]
        exact rd_own HC3.out.2

theorem putText_any {v : Value} {l : List ByteArray} (x : ByteArray) {w : World} (h : Rd w v l) (hl : l.length ≤ 4194304) :
    Calls Tryz.prog 166 #[v, .string x] w fun e w' => ∃ v', e = .returned (.tuple #[v', .bool (!memD x l)]) ∧ Below w.heap.size w w' ∧ Rd w' v' (putS x l) := by
  obtain ⟨a, c, rfl, _, _⟩ := rd_len h
  exact putText_core a c l x w h hl
end Go.Proofs.YtkncboinfcnklaaGreatDoor

namespace Go.Proofs.YtkncboinfcnklaaGreatDoor
open Go.RowKit Go.Deep Go.Proofs.YtkncboinfcnklaaGreatDoor.Mth

theorem idx_at (s : ByteArray) (k : Nat) (h : k < s.size) (w : World) : (Instr.index 9 (.string s) (.int .i64 (k : Int))).run Tryz.prog w = .ok (.int .u8 ((tb s).getD k 0)) w := by
  rw [run_index_string (P := Tryz.prog) w 9 s .i64 (k : Int) Tryz.underlying9, dif_pos ⟨by omega, by omega⟩, tb_get s k h]
  congr 3
  have hk : k < s.data.size := h
  simp [List.getD, Array.getElem?_eq_getElem hk]
  rfl

theorem size_nums (l : List Int) : (strOfNums l).size = l.length := by
  unfold strOfNums
  simp [ByteArray.size]

theorem nums_app (a b : List Int) : strOfNums a ++ strOfNums b = strOfNums (a ++ b) := by
  apply bytes_ext
  rw [ByteArray.data_append, Array.toList_append]
  unfold strOfNums
  simp

theorem add_at (a b : List Int) (w : World) (h : a.length + b.length ≤ 1000000000) : (Op.stringOp .add (strOfNums a) (strOfNums b)).run Tryz.prog w = .ok (.string (strOfNums (a ++ b))) w := by
  rw [run_string_add_sum (P := Tryz.prog) w _ _ (by rw [size_nums, size_nums]; omega), nums_app]

/-- One byte, as a text. -/
theorem conv_one (w : World) (x : Int) : (convert 158 9 (.slice (some ⟨w.heap.size, 0, none⟩) 1 1)).run Tryz.prog (w.alloc (.cells #[.int .u8 x] 5)) = .ok (.string (strOfNums [x])) (w.alloc (.cells #[.int .u8 x] 5)) := by
  refine run_convert_bytes_arg (P := Tryz.prog) _ 158 5 Tryz.underlying158 Tryz.underlying5 w.heap.size 0 1 1 [x] rfl (fun i hi => ?_) 9 Tryz.underlying9
  have : i = 0 := by omega
  subst this
  have := cell_one_new w (.int .u8 x) 5 0 (.int .u8 x) rfl
  rwa [show (⟨w.heap.size, 0, none⟩ : Addr).add 0 = ⟨w.heap.size, 0 + 0, none⟩ from by unfold Addr.add; split <;> simp_all] at this

theorem div_pow (n : Int) (k : Nat) : n / 256 ^ k / 256 = n / 256 ^ (k + 1) := by
  rw [Int.ediv_ediv_of_nonneg (Int.pow_nonneg (by omega)), Int.pow_succ]

set_option maxRecDepth 100000 in
set_option maxHeartbeats 1000000 in
theorem refBytes_any (n : Int) (many : Nat) (w : World) (h0 : 0 ≤ n) (_h1 : n < 9223372036854775808) (hm : many ≤ 8) :
    Calls Tryz.prog 165 #[.int .i64 n, .int .i64 many] w fun e w' => e = .returned (.string (strOfNums (num n many))) ∧ Below w.heap.size w w' := by
  go_enter Tryz.func165, Tryz.ntmps165
  go_wp2_with fail
  go_loopw [0, 5, 6] (fun nv s i wr => ∃ k : Nat, k ≤ many ∧ i = .int .i64 k ∧ nv = .int .i64 (n / 256 ^ k) ∧ s = .string (strOfNums (num n k)) ∧ Below w.heap.size w wr) (fun _ _ i _ => many - (intOf i).toNat)
  case atStart => exact ⟨0, Nat.zero_le _, rfl, by simp, by simp [num, strOfNums], Below.refl _ _⟩
  case round =>
    obtain ⟨k, hk, rfl, rfl, rfl, hb⟩ := hrel
    by_cases hlt : k < many
    · have hnum : Hid (num n (k + 1) = (n / 256 ^ k % 256) :: num n k) := rfl
      have hdp := hide (div_pow n k)
      have hnl := num_len n k
      have e0 : 0 ≤ n / 256 ^ k := Int.ediv_nonneg h0 (Int.pow_nonneg (by omega))
      have e1 : n / 256 ^ k ≤ n := Int.ediv_le_self _ h0
      generalize n / 256 ^ k = q at *
      have hcv := conv_one wr (q % 256)
      have hadd := add_at [q % 256] (num n k) (wr.alloc (.cells #[.int .u8 (q % 256)] 5)) (by rw [hnl]; simp; omega)
      have HB := hide (hb.trans ((below_alloc wr (.cells #[.int .u8 (q % 256)] 5)).mono hb.size))
      clear hb
      go_wp2
      go_roundw
      case rel => exact ⟨k + 1, by omega, by go_num, by rw [← hdp.out], by rw [hnum.out], HB.out⟩
      case measure => simp [intOf]; omega
    · have hke : k = many := by omega
      subst hke
      have HB := hide hb
      clear hb
      go_wp2
      go_ret
      exact ⟨rfl, HB.out⟩

set_option maxRecDepth 100000 in
set_option maxHeartbeats 1000000 in
theorem refSum_any (s : ByteArray) (w : World) (hs : s.size ≤ 1048576) :
    Calls Tryz.prog 168 #[.string s] w fun e w' => e = .returned (.int .i64 (sumv (tb s))) ∧ w' = w := by
  have HL := hide (tb_len s)
  have HBT := hide (tb_bts s)
  have HRC := hide (refC_sm (tb s))
  go_enter Tryz.func168, Tryz.ntmps168
  go_wp2_with fail
  go_loop [3, 4, 5] (fun p q i => ∃ k : Nat, k ≤ s.size ∧ i = .int .i64 k ∧ ∃ A C : Int, p = .int .i64 A ∧ q = .int .i64 C ∧ 0 ≤ A ∧ A < 65521 ∧ 0 ≤ C ∧ C < 65521 ∧ A = (sm ((tb s).take k)).1 ∧ refC C ((tb s).drop k) = (sm (tb s)).2) (fun _ _ i => s.size - (intOf i).toNat)
  case atStart =>
    refine ⟨0, Nat.zero_le _, rfl, 1, (s.size : Int) % 65521, rfl, by first | rfl | go_num, by omega, by omega, by omega, by omega, rfl, ?_⟩
    have := HRC.out
    rw [HL.out] at this
    simpa using this
  case round =>
    obtain ⟨k, hk, rfl, A, C, rfl, rfl, h1, h2, h3, h4, hA, hC⟩ := hrel
    have HA := hide hA
    have HCC := hide hC
    clear hA hC
    by_cases hlt : k < s.size
    · have hix := idx_at s k hlt w
      have hx := bts_get HBT.out k
      have hst := hide (sm_take (l := tb s) (k := k) (by rw [HL.out]; exact hlt))
      have hdr := hide (drop_get (l := tb s) (k := k) (by rw [HL.out]; exact hlt) 0)
      have hdl : Hid (((((tb s).drop (k + 1)).length : Nat) : Int) + 1 = (s.size : Int) - k) := by
        show _ = _
        rw [List.length_drop, HL.out]
        omega
      generalize (tb s).getD k 0 = x at *
      obtain ⟨x1, x2⟩ := hx
      have hr0 : 0 ≤ ((s.size : Int) - k) % 65521 := by omega
      have hr1 : ((s.size : Int) - k) % 65521 < 65521 := by omega
      have hmul0 : 0 ≤ x * (((s.size : Int) - k) % 65521) := Int.mul_nonneg x1 hr0
      have hmul1 : x * (((s.size : Int) - k) % 65521) ≤ 256 * 65521 := Int.mul_le_mul (by omega) (by omega) hr0 (by omega)
      go_wp2
      go_round
      case rel =>
        refine ⟨k + 1, by omega, by go_num, (A + x) % 65521, (C + x * (((s.size : Int) - k) % 65521)) % 65521, by go_num, by go_num, by omega, by omega, by omega, by omega, ?_, ?_⟩
        · rw [hst.out, HA.out]; rfl
        · have := HCC.out
          rw [hdr.out, refC, hdl.out] at this
          exact this
      case measure => simp [intOf]; omega
    · have hke : k = s.size := by omega
      have hfull : (tb s).take k = tb s := List.take_of_length_le (by rw [HL.out]; omega)
      have hdr : (tb s).drop k = [] := List.drop_eq_nil_of_le (by rw [HL.out]; omega)
      have e1 := HA.out
      have e2 := HCC.out
      rw [hfull] at e1
      rw [hdr, refC] at e2
      have hsv : Hid (sumv (tb s) = 65536 * C + A) := by
        show _ = _
        unfold sumv
        rw [e1, e2]
      clear e1 e2 HA HCC hfull hdr
      go_wp2
      go_ret
      exact ⟨by rw [hsv.out]; first | rfl | go_num, rfl⟩
end Go.Proofs.YtkncboinfcnklaaGreatDoor

namespace Go.Proofs.YtkncboinfcnklaaGreatDoor
open Go.RowKit Go.Deep Go.Proofs.YtkncboinfcnklaaGreatDoor.Mth

theorem ofL_size (l : List UInt8) : (ofL l).size = l.length := by simp [ofL, ByteArray.size]

theorem add_letter (cur : List UInt8) (c : Int) (w : World) (h : cur.length ≤ 1000000000) : (Op.stringOp .add (ofL cur) (strOfNums [c])).run Tryz.prog w = .ok (.string (ofL (cur ++ [UInt8.ofNat c.toNat]))) w := by
  rw [run_string_add_sum (P := Tryz.prog) w _ _ (by rw [ofL_size, size_nums]; simp; omega)]
  congr 2

theorem cut_no {cur : List UInt8} {x : Int} {l : List Int} (h : ltr x = 0) : cut cur (x :: l) = (if cur.isEmpty then [] else [cur]) ++ cut [] l := by
  rw [cut, if_pos h]
  split <;> simp
theorem cut_yes {cur : List UInt8} {x : Int} {l : List Int} (h : ltr x ≠ 0) : cut cur (x :: l) = cut (cur ++ [UInt8.ofNat (ltr x).toNat]) l := by rw [cut, if_neg h]
theorem cut_end (cur : List UInt8) : cut cur [] = (if cur.isEmpty then [] else [cur]) ++ cut [] [] := by
  rw [cut, cut]
  simp

theorem ltr_bd (x : Int) : 0 ≤ ltr x ∧ ltr x < 256 := by unfold ltr; split <;> (try split) <;> omega

/-- What a word that ends leaves. -/
def wput (cur : List UInt8) (m : List ByteArray) : List ByteArray := if cur.isEmpty then m else putS (ofL cur) m
theorem wput_mem (cur : List UInt8) (m : List ByteArray) (rest all : List (List UInt8)) (h : ∀ x, (x ∈ m ∨ x ∈ ((if cur.isEmpty then [] else [cur]) ++ rest).map ofL) ↔ x ∈ all.map ofL) : ∀ x, (x ∈ wput cur m ∨ x ∈ rest.map ofL) ↔ x ∈ all.map ofL := by
  intro x
  rw [← h x]
  unfold wput
  by_cases c : cur.isEmpty = true
  · rw [if_pos c, if_pos c]; simp
  · rw [if_neg c, if_neg c, putS_mem, List.map_append, List.mem_append, List.map_singleton, List.mem_singleton]
    constructor
    · rintro ((q | q) | q)
      · exact Or.inr (Or.inl q)
      · exact Or.inl q
      · exact Or.inr (Or.inr q)
    · rintro (q | q | q)
      · exact Or.inl (Or.inr q)
      · exact Or.inl (Or.inl q)
      · exact Or.inr q
theorem wput_up {cur : List UInt8} {m : List ByteArray} (h : m.Pairwise ltS) : (wput cur m).Pairwise ltS := by
  unfold wput
  split
  · exact h
  · exact putS_up _ _ h
theorem wput_len (cur : List UInt8) (m : List ByteArray) : (wput cur m).length ≤ m.length + 1 := by
  unfold wput
  split
  · omega
  · exact putS_len _ _

theorem ne_empty {cur : List UInt8} (h : cur.isEmpty = false) : ((ofL cur).toList == ([] : List UInt8)) = false := by
  rw [Lib.toList_data, ofL_data]
  cases cur with
  | nil => simp at h
  | cons a l => rfl

set_option maxRecDepth 100000 in
set_option maxHeartbeats 4000000 in
theorem refWords_any (s : ByteArray) (w : World) (hs : s.size ≤ 1048576) :
    Calls Tryz.prog 109 #[.string s] w fun e w' => ∃ v', e = .returned v' ∧ Below w.heap.size w w' ∧ Rd w' v' (wd s) := by
  have HL := hide (tb_len s)
  have HBT := hide (tb_bts s)
  go_enter Tryz.func109, Tryz.ntmps109
  go_wp2_with fail
  go_loopw [3, 4, 5] (fun lv wv i wr => ∃ (k : Nat) (cur : List UInt8) (m : List ByteArray), k ≤ s.size + 1 ∧ i = .int .i64 k ∧ wv = .string (ofL cur) ∧ Below w.heap.size w wr ∧ Rd wr lv m ∧ m.length ≤ k ∧ cur.length ≤ k ∧ m.Pairwise ltS ∧ (∀ x, (x ∈ m ∨ x ∈ (cut cur ((tb s).drop k)).map ofL) ↔ x ∈ (cut [] (tb s)).map ofL) ∧ (k = s.size + 1 → cur = [])) (fun _ _ i _ => s.size + 1 - (intOf i).toNat)
  case atStart => exact ⟨0, [], [], Nat.zero_le _, rfl, rfl, Below.refl _ _, ⟨none, 0, rfl, Nat.le_refl _, by unfold maxLen; omega, fun _ => rfl, Or.inl rfl⟩, Nat.le_refl _, Nat.le_refl _, List.Pairwise.nil, fun x => by simp, fun h => by omega⟩
  case round =>
    obtain ⟨k, cur, m, hk, rfl, rfl, hb, hrd, hml, hcl, hup, hall, hend⟩ := hrel
    have HB := hide hb
    have HR := hide hrd
    have HU := hide hup
    have HA := hide hall
    have HE := hide hend
    obtain ⟨la, lc, rfl, hlc, hlm⟩ := rd_len hrd
    have hsz := hb.size
    clear hb hrd hup hall hend
    by_cases hlt : k < s.size
    · have hix := idx_at s k hlt wr
      have hx := bts_get HBT.out k
      have hdr := hide (drop_get (l := tb s) (k := k) (by rw [HL.out]; exact hlt) 0)
      generalize (tb s).getD k 0 = x at *
      obtain ⟨x1, x2⟩ := hx
      have CL := hide (fun w => letter_any x w x1 x2)
      have hlb := ltr_bd x
      have HLT : Hid (ltr x = ltr x) := rfl
      by_cases hl0 : ltr x = 0
      · have HALL := hide (fun z => wput_mem cur m (cut [] ((tb s).drop (k + 1))) (cut [] (tb s)) (by have := HA.out; rw [hdr.out, cut_no hl0] at this; exact this) z)
        rw [hl0] at CL
        clear hl0 hlb HLT
        cases hce : cur.isEmpty with
        | true =>
          have hcn : cur = [] := List.isEmpty_iff.1 hce
          subst hcn
          have hne : ((ofL []).toList == ([] : List UInt8)) = true := by rw [Lib.toList_data, ofL_data]; rfl
          clear hce
          go_wp2_with (first | (go_at_call 189; refine (CL.out _).mono ?_; rintro e w' ⟨rfl, hw⟩; rw [hw]; clear hw w'))
          go_roundw
          case rel => exact ⟨k + 1, [], m, by omega, by go_num, rfl, HB.out, HR.out, by omega, by simp, HU.out, HALL.out, fun _ => rfl⟩
          case measure => simp [intOf]; omega
        | false =>
          have hne := ne_empty hce
          have hwp : Hid (wput cur m = putS (ofL cur) m) := by show _ = _; unfold wput; rw [hce]; rfl
          have hwl := wput_len cur m
          have CP := hide (putText_any (ofL cur) HR.out (by omega))
          clear hce
          go_wp2_with (first | (go_at_call 189; refine (CL.out _).mono ?_; rintro e w' ⟨rfl, hw⟩; rw [hw]; clear hw w') | (go_at_call 166; refine CP.out.mono ?_; rintro e w2 ⟨v2, rfl, hb2, hr2⟩; have HB2 := hide hb2; have HR2 := hide hr2; clear hb2 hr2))
          go_roundw
          case rel => exact ⟨k + 1, [], wput cur m, by omega, by go_num, rfl, HB.out.trans (HB2.out.mono hsz), by rw [hwp.out]; exact HR2.out, by omega, by simp, wput_up HU.out, HALL.out, fun _ => rfl⟩
          case measure => simp [intOf]; omega
      · have HALL : Hid (∀ z, (z ∈ m ∨ z ∈ (cut (cur ++ [UInt8.ofNat (ltr x).toNat]) ((tb s).drop (k + 1))).map ofL) ↔ z ∈ (cut [] (tb s)).map ofL) := by
          have := HA.out
          rw [hdr.out, cut_yes hl0] at this
          exact this
        have hl0b : (ltr x == 0) = false := by simpa using hl0
        generalize ltr x = y at *
        have hcv := conv_one wr y
        have hadd := add_letter cur y (wr.alloc (.cells #[.int .u8 y] 5)) (by omega)
        have HB1 := hide (HB.out.trans ((below_alloc wr (.cells #[.int .u8 y] 5)).mono hsz))
        have HR1 := hide (HR.out.below (below_alloc wr (.cells #[.int .u8 y] 5)))
        clear HLT
        go_wp2_with (first | (go_at_call 189; refine (CL.out _).mono ?_; rintro e w' ⟨rfl, hw⟩; rw [hw]; clear hw w'))
        go_roundw
        case rel => exact ⟨k + 1, cur ++ [UInt8.ofNat y.toNat], m, by omega, by go_num, rfl, HB1.out, HR1.out, by omega, by rw [List.length_append, List.length_singleton]; omega, HU.out, HALL.out, fun h => by omega⟩
        case measure => simp [intOf]; omega
    · by_cases hke : k = s.size
      · subst hke
        have hdr0 : (tb s).drop s.size = [] := List.drop_eq_nil_of_le (by rw [HL.out]; exact Nat.le_refl _)
        have hdr1 : (tb s).drop (s.size + 1) = [] := List.drop_eq_nil_of_le (by rw [HL.out]; omega)
        have HALL := hide (fun z => wput_mem cur m (cut [] ((tb s).drop (s.size + 1))) (cut [] (tb s)) (by have := HA.out; rw [hdr0, cut_end] at this; rw [hdr1]; exact this) z)
        clear hdr0 hdr1
        cases hce : cur.isEmpty with
        | true =>
          have hcn : cur = [] := List.isEmpty_iff.1 hce
          subst hcn
          have hne : ((ofL []).toList == ([] : List UInt8)) = true := by rw [Lib.toList_data, ofL_data]; rfl
          clear hce
          go_wp2
          go_roundw
          case rel => exact ⟨s.size + 1, [], m, by omega, by go_num, rfl, HB.out, HR.out, by omega, by simp, HU.out, HALL.out, fun _ => rfl⟩
          case measure => simp [intOf]
        | false =>
          have hne := ne_empty hce
          have hwp : Hid (wput cur m = putS (ofL cur) m) := by show _ = _; unfold wput; rw [hce]; rfl
          have hwl := wput_len cur m
          have CP := hide (putText_any (ofL cur) HR.out (by omega))
          clear hce
          go_wp2_with (first | (go_at_call 166; refine CP.out.mono ?_; rintro e w2 ⟨v2, rfl, hb2, hr2⟩; have HB2 := hide hb2; have HR2 := hide hr2; clear hb2 hr2))
          go_roundw
          case rel => exact ⟨s.size + 1, [], wput cur m, by omega, by go_num, rfl, HB.out.trans (HB2.out.mono hsz), by rw [hwp.out]; exact HR2.out, by omega, by simp, wput_up HU.out, HALL.out, fun _ => rfl⟩
          case measure => simp [intOf]
      · have hke2 : k = s.size + 1 := by omega
        have hc0 := HE.out hke2
        subst hke2 hc0
        have hfin : Hid (m = wd s) := by
          refine wd_of HU.out (fun x => ?_)
          rw [← HA.out x, List.drop_eq_nil_of_le (by rw [HL.out]; omega)]
          simp [cut]
        clear hlt hke
        go_wp2
        go_ret
        exact ⟨_, rfl, HB.out, by rw [← hfin.out]; exact HR.out⟩
end Go.Proofs.YtkncboinfcnklaaGreatDoor

namespace Go.Proofs.YtkncboinfcnklaaGreatDoor
open Go.RowKit Go.Deep Go.Proofs.YtkncboinfcnklaaGreatDoor.Mth

set_option maxRecDepth 100000 in
set_option maxHeartbeats 1000000 in
theorem refHas_any (s x : ByteArray) (w : World) (hs : s.size ≤ 1048576) :
    Calls Tryz.prog 167 #[.string s, .string x] w fun e w' => e = .returned (.bool (memD x (wd s))) ∧ Below w.heap.size w w' := by
  have CW := hide (refWords_any s w hs)
  have hwl := wd_len s
  go_enter Tryz.func167, Tryz.ntmps167
  go_wp2_with fail
  refine CW.out.mono ?_
  rintro e w1 ⟨v1, rfl, hb1, hr1⟩
  have HB := hide hb1
  have HR := hide hr1
  obtain ⟨a, c, rfl, hc, hm⟩ := rd_len hr1
  unfold maxLen at hm
  clear hb1 hr1 CW
  generalize hL : wd s = l at *
  generalize hn : l.length = n at *
  have HN := hide hn
  have HLL := hide hL
  clear hn hL
  go_wp2_with fail
  go_loop [6] (fun i => ∃ k : Nat, k ≤ n ∧ i = .int .i64 k ∧ ¬ x ∈ l.take k) (fun i => n - (intOf i).toNat)
  case atStart => exact ⟨0, Nat.zero_le _, rfl, by simp⟩
  case round =>
    obtain ⟨k, hk, rfl, hnot⟩ := hrel
    have HX := hide hnot
    clear hnot
    by_cases hlt : k < n
    · obtain ⟨b, o, rfl, hblt, hcell⟩ := rd_at HR.out k (by rw [HN.out]; exact hlt)
      have htk : Hid (l.take (k + 1) = l.take k ++ [l.getD k ByteArray.empty]) := by
        show _ = _
        rw [List.take_succ_eq_append_getElem (by rw [HN.out]; exact hlt)]
        simp [List.getD, show k < l.length by rw [HN.out]; exact hlt]
      have hmem : Hid (l.getD k ByteArray.empty ∈ l) := by
        show _ ∈ _
        rw [List.getD, List.getElem?_eq_getElem (by rw [HN.out]; exact hlt)]
        exact List.getElem_mem _
      generalize l.getD k ByteArray.empty = y at *
      by_cases hy : y = x
      · subst hy
        go_wp2
        go_ret
        exact ⟨by rw [HLL.out, memD_true hmem.out]; rfl, HB.out⟩
      · have q1 := eqS_false hy
        have hnx : Hid (¬ x ∈ l.take (k + 1)) := by
          show ¬ _
          rw [htk.out]
          simp only [List.mem_append, List.mem_singleton]
          rintro (q | q)
          · exact HX.out q
          · exact hy q.symm
        clear hy
        go_wp2
        go_round
        case rel => exact ⟨k + 1, by omega, by go_num, hnx.out⟩
        case measure => simp [intOf]; omega
    · have htk : l.take k = l := List.take_of_length_le (by rw [HN.out]; omega)
      have hnx : Hid (¬ x ∈ l) := by have := HX.out; rwa [htk] at this
      clear htk
      go_wp2
      go_ret
      exact ⟨by rw [HLL.out, memD_false hnx.out]; rfl, HB.out⟩

theorem rnum_bd1 {b : List Int} (h : Bts b) : 0 ≤ rnum b 1 ∧ rnum b 1 < 256 := by
  have := bts_get h 0
  unfold rnum rnum wrap64
  split <;> omega

theorem rnum_bd2 {b : List Int} (h : Bts b) : 0 ≤ rnum b 2 ∧ rnum b 2 < 65536 := by
  have h1 := rnum_bd1 h
  have := bts_get h 1
  rw [rnum]
  generalize rnum b 1 = q at *
  unfold wrap64
  split <;> omega

theorem drop_getD (s : List Int) (a k : Nat) : (s.drop a).getD k 0 = s.getD (a + k) 0 := by simp [List.getD]

set_option maxRecDepth 100000 in
set_option maxHeartbeats 1000000 in
theorem refNumber_any (s : ByteArray) (at_ many : Nat) (w : World) (_hs : s.size ≤ 1048576) (ha : at_ ≤ 4194304) (hm : many ≤ 8) :
    Calls Tryz.prog 197 #[.string s, .int .i64 at_, .int .i64 many] w fun e w' => e = .returned (.int .i64 (rnum ((tb s).drop at_) many)) ∧ w' = w := by
  have HL := hide (tb_len s)
  have HBT := hide (tb_bts s)
  go_enter Tryz.func197, Tryz.ntmps197
  go_wp2_with fail
  go_loop [7, 8] (fun n i => ∃ k : Nat, k ≤ many ∧ i = .int .i64 ((at_ : Int) + k) ∧ n = .int .i64 (rnum ((tb s).drop at_) k)) (fun _ i => at_ + many - (intOf i).toNat)
  case atStart => exact ⟨0, Nat.zero_le _, by simp, rfl⟩
  case round =>
    obtain ⟨k, hk, rfl, rfl⟩ := hrel
    by_cases hlt : k < many
    · by_cases hin : at_ + k < s.size
      · have hix := idx_at s (at_ + k) hin w
        rw [Int.natCast_add] at hix
        have hx := bts_get HBT.out (at_ + k)
        have hrn : Hid (rnum ((tb s).drop at_) (k + 1) = wrap64 (wrap64 (rnum ((tb s).drop at_) k * 256) + (tb s).getD (at_ + k) 0)) := by
          show _ = _
          rw [rnum, if_pos (by rw [List.length_drop, HL.out]; omega), drop_getD]
        generalize (tb s).getD (at_ + k) 0 = x at *
        generalize rnum ((tb s).drop at_) k = q at *
        obtain ⟨x1, x2⟩ := hx
        go_wp2
        go_round
        case rel => exact ⟨k + 1, by omega, by go_num, by rw [hrn.out]⟩
        case measure => simp [intOf]; omega
      · have hrn : Hid (rnum ((tb s).drop at_) (k + 1) = wrap64 (rnum ((tb s).drop at_) k * 256)) := by
          show _ = _
          rw [rnum, if_neg (by rw [List.length_drop, HL.out]; omega)]
        generalize rnum ((tb s).drop at_) k = q at *
        go_wp2
        go_round
        case rel => exact ⟨k + 1, by omega, by go_num, by rw [hrn.out]⟩
        case measure => simp [intOf]; omega
    · have hke : k = many := by omega
      subst hke
      go_wp2
      go_ret
      exact ⟨rfl, rfl⟩
end Go.Proofs.YtkncboinfcnklaaGreatDoor

namespace Go.Proofs.YtkncboinfcnklaaGreatDoor
open Go.RowKit Go.Deep Go.Proofs.YtkncboinfcnklaaGreatDoor.Mth

theorem isE_no {s t : Int} {x : ByteArray} (h : isE ⟨s, t, x⟩ = false) : s < 0 ∨ 1000000000000 < s ∨ t < 0 ∨ 1000000000000 < t ∨ 60 < x.size := by
  unfold isE at h
  simp only [Bool.and_eq_false_iff, decide_eq_false_iff_not] at h
  omega
theorem isE_yes {s t : Int} {x : ByteArray} (h : isE ⟨s, t, x⟩ = true) : 0 ≤ s ∧ s ≤ 1000000000000 ∧ 0 ≤ t ∧ t ≤ 1000000000000 ∧ x.size ≤ 60 := by
  unfold isE at h
  simp only [Bool.and_eq_true, decide_eq_true_iff] at h
  omega

set_option maxRecDepth 100000 in
set_option maxHeartbeats 4000000 in
theorem refIsSeg_core (a : Option Addr) (c : Nat) (l : List Ent) (w : World) (h : RdE w (.slice a l.length c) l) (h1 : 1 ≤ l.length) (h64 : l.length ≤ 64) (r : Bool) (hr : Hid (r = (List.range l.length).all (okAt l))) :
    Calls Tryz.prog 102 #[.slice a l.length c] w fun e w' => e = .returned (.bool r) ∧ Below w.heap.size w w' := by
  have HR := hide h
  clear h
  generalize hn : l.length = n at *
  have HN := hide hn
  clear hn
  have q1 : decide ((n : Int) < 1) = false := by simp; omega
  have q2 : decide ((64 : Int) < (n : Int)) = false := by simp; omega
  have q3 : ¬ (n : Int) < 1 := by omega
  have q4 : ¬ (64 : Int) < (n : Int) := by omega
  go_enter Tryz.func102, Tryz.ntmps102
  go_wp2_with fail
  clear q1 q2 q3 q4
  go_loopw [3] (fun i wr => ∃ k : Nat, k ≤ n ∧ i = .int .i64 k ∧ Below w.heap.size w wr ∧ (∀ i, i < k → okAt l i = true)) (fun i _ => n - (intOf i).toNat)
  case atStart => exact ⟨0, Nat.zero_le _, rfl, Below.refl _ _, fun i hi => absurd hi (Nat.not_lt_zero _)⟩
  case round =>
    obtain ⟨k, hk, rfl, hb, hall⟩ := hrel
    have HALL0 := hide hall
    clear hall
    by_cases hlt : k < n
    · have hrd := HR.out.below hb
      obtain ⟨b, o, rfl, hblt, c0, c1, c2⟩ := rdE_at hrd k (by rw [HN.out]; exact hlt)
      cases hE : isE (l.getD k e0) with
      | false =>
        have HOK : Hid (okAt l k = false) := by show _ = _; unfold okAt; rw [hE]; rfl
        generalize l.getD k e0 = e at *
        obtain ⟨s, t, x⟩ := e
        have hno := isE_no hE
        simp only at c0 c1 c2
        have HWB := hide (hb.trans ((below_alloc wr (Obj.cells #[Value.int IntKind.i64 s, Value.int IntKind.i64 t, Value.string x] 66)).mono hb.size))
        clear hrd hE hb
        rcases hno with hno | hno | hno | hno | hno
        all_goals (go_wp2; all_goals (go_ret; exact ⟨by rw [hr.out, all_false hlt HOK.out]; rfl, HWB.out⟩))
      | true =>
        by_cases hk0 : k = 0
        · subst hk0
          have HOK : Hid (okAt l 0 = true) := by show _ = _; unfold okAt; rw [hE]; simp
          generalize l.getD 0 e0 = e at *
          obtain ⟨s, t, x⟩ := e
          obtain ⟨y0, y1, y2, y3, y4⟩ := isE_yes hE
          simp only [Nat.zero_mul, Nat.add_zero] at c0 c1 c2
          clear hrd hE
          go_wp2_with fail
          have hWb := below_alloc wr (Obj.cells #[Value.int IntKind.i64 s, Value.int IntKind.i64 t, Value.string x] 66)
          have HWB := hide (hb.trans (hWb.mono hb.size))
          clear c0 c1 c2 hWb hb
          generalize (wr.alloc (Obj.cells #[Value.int IntKind.i64 s, Value.int IntKind.i64 t, Value.string x] 66)) = W at *
          generalize wr.heap.size = nb at *
          refine wp_region_quiet_below (by kernel_rfl) (by kernel_rfl) ?_
          repeat (go_big_quiet_step (fail))
          refine wpQuiet_nil ?_
          intro _ hw'
          obtain ⟨⟨dq, osq⟩, hw''⟩ := hw'
          subst hw''
          have HB1 := hide (below_regrown W dq osq)
          generalize Sort.grow (redrawn W dq) osq = w1 at *
          go_wp2
          go_roundw
          case rel => exact ⟨1, by omega, by go_num, HWB.out.trans (HB1.out.mono HWB.out.size), fun i hi => by have : i = 0 := (by omega); subst this; exact HOK.out⟩
          case measure => simp [intOf]; omega
        · have hrd' := hrd
          obtain ⟨b', o', e', _, d0, d1, d2⟩ := rdE_at hrd' (k - 1) (by rw [HN.out]; omega)
          injection e' with e'
          injection e' with e1 e2
          subst e1 e2
          have hok : Hid (okAt l k = fol (l.getD k e0) (l.getD (k - 1) e0)) := by show _ = _; unfold okAt; rw [hE]; simp [hk0]
          generalize l.getD k e0 = e at *
          generalize l.getD (k - 1) e0 = e' at *
          obtain ⟨s, t, x⟩ := e
          obtain ⟨s', t', x'⟩ := e'
          obtain ⟨y0, y1, y2, y3, y4⟩ := isE_yes hE
          simp only at c0 c1 c2 d0 d1 d2
          clear hrd hrd' hE
          have hbwr : b < wr.heap.size := hblt
          go_wp2_with fail
          have k0 : (wr.alloc (Obj.cells #[Value.int IntKind.i64 s, Value.int IntKind.i64 t, Value.string x] 66)).cell? ⟨wr.heap.size, 0, none⟩ = some (.int .i64 s) := by simp
          have k1 : (wr.alloc (Obj.cells #[Value.int IntKind.i64 s, Value.int IntKind.i64 t, Value.string x] 66)).cell? ⟨wr.heap.size, 1, none⟩ = some (.int .i64 t) := by simp
          have hWb := below_alloc wr (Obj.cells #[Value.int IntKind.i64 s, Value.int IntKind.i64 t, Value.string x] 66)
          have g0 := (hWb.cell (p := ⟨b, o + (k - 1) * 3, none⟩) hbwr).trans d0
          have g1 := (hWb.cell (p := ⟨b, o + (k - 1) * 3 + 1, none⟩) hbwr).trans d1
          clear d0 d1 d2
          have hkk : (0 : Int) < (k : Int) := by omega
          have hkk2 : decide (0 < k) = true := by simp; omega
          have HWB := hide (hb.trans (hWb.mono hb.size))
          clear c0 c1 c2 hWb hb
          generalize (wr.alloc (Obj.cells #[Value.int IntKind.i64 s, Value.int IntKind.i64 t, Value.string x] 66)) = W at *
          generalize wr.heap.size = nb at *
          have k0' := cell_regrown k0
          have k1' := cell_regrown k1
          have g0' := cell_regrown g0
          have g1' := cell_regrown g1
          clear hbwr hblt g0 g1
          by_cases hF1 : s' < s
          · have z1 : decide (s ≤ s') = false := by simp; omega
            have z2 : ¬ s ≤ s' := by omega
            by_cases hF2 : t' ≤ t
            · have z3 : decide (t < t') = false := by simp; omega
              have z4 : ¬ t < t' := by omega
              have HOK : Hid (okAt l k = true) := by rw [hok.out]; show _ = _; unfold fol; simp [hF1, hF2]
              clear hok
              refine wp_region_quiet_below (by kernel_rfl) (by kernel_rfl) ?_
              repeat (go_big_quiet_step (fail))
              refine wpQuiet_nil ?_
              intro _ hw'
              obtain ⟨⟨dq, osq⟩, hw''⟩ := hw'
              subst hw''
              have HB1 := hide (below_regrown W dq osq)
              clear k0' k1' g0' g1'
              generalize Sort.grow (redrawn W dq) osq = w1 at *
              go_wp2
              go_roundw
              case rel => exact ⟨k + 1, by omega, by go_num, HWB.out.trans (HB1.out.mono HWB.out.size), fun i hi => by by_cases c : i < k; exact HALL0.out i c; have : i = k := (by omega); subst this; exact HOK.out⟩
              case measure => simp [intOf]; omega
            · have z3 : decide (t < t') = true := by simp; omega
              have z4 : t < t' := by omega
              have HOK : Hid (okAt l k = false) := by rw [hok.out]; show _ = _; unfold fol; simp [hF2]
              clear hok
              refine wp_region_quiet_below (by kernel_rfl) (by kernel_rfl) ?_
              repeat (go_big_quiet_step (fail))
              refine wpQuiet_nil ?_
              intro _ hw'
              obtain ⟨⟨dq, osq⟩, hw''⟩ := hw'
              subst hw''
              have HB1 := hide (below_regrown W dq osq)
              clear k0' k1' g0' g1'
              generalize Sort.grow (redrawn W dq) osq = w1 at *
              go_wp2
              go_ret
              exact ⟨by rw [hr.out, all_false hlt HOK.out]; rfl, HWB.out.trans (HB1.out.mono HWB.out.size)⟩
          · have z1 : decide (s ≤ s') = true := by simp; omega
            have z2 : s ≤ s' := by omega
            have HOK : Hid (okAt l k = false) := by rw [hok.out]; show _ = _; unfold fol; simp [hF1]
            clear hok
            refine wp_region_quiet_below (by kernel_rfl) (by kernel_rfl) ?_
            repeat (go_big_quiet_step (fail))
            refine wpQuiet_nil ?_
            intro _ hw'
            obtain ⟨⟨dq, osq⟩, hw''⟩ := hw'
            subst hw''
            have HB1 := hide (below_regrown W dq osq)
            clear k0' k1' g0' g1'
            generalize Sort.grow (redrawn W dq) osq = w1 at *
            go_wp2
            go_ret
            exact ⟨by rw [hr.out, all_false hlt HOK.out]; rfl, HWB.out.trans (HB1.out.mono HWB.out.size)⟩
    · have HALL : Hid ((List.range n).all (okAt l) = true) := by
        show (List.range n).all (okAt l) = true
        rw [List.all_eq_true]
        intro i hi
        exact HALL0.out i (by have := List.mem_range.1 hi; omega)
      go_wp2
      go_ret
      exact ⟨by rw [hr.out, HALL.out]; rfl, hb⟩

/-- Is it a segment? -/
def segD (l : List Ent) : Bool := decide (l.length ≤ 64) && segB l
theorem segD_yes {l : List Ent} : segD l = true ↔ Seg l := by
  unfold segD
  constructor
  · intro h
    simp only [Bool.and_eq_true, decide_eq_true_iff] at h
    exact seg_of h.2 h.1
  · intro h
    simp only [Bool.and_eq_true, decide_eq_true_iff]
    exact ⟨h.2.1, segB_of h⟩

set_option maxHeartbeats 400000 in
theorem refIsSeg_zero (a : Option Addr) (c : Nat) (w : World) : Calls Tryz.prog 102 #[.slice a 0 c] w fun e w' => e = .returned (.bool false) ∧ Below w.heap.size w w' := by
  go_enter Tryz.func102, Tryz.ntmps102
  go_wp2
  go_ret
  exact ⟨rfl, Below.refl _ _⟩

set_option maxHeartbeats 400000 in
theorem refIsSeg_big (a : Option Addr) (n c : Nat) (w : World) (h : 64 < n) : Calls Tryz.prog 102 #[.slice a n c] w fun e w' => e = .returned (.bool false) ∧ Below w.heap.size w w' := by
  have q3 : ¬ (n : Int) < 1 := by omega
  have q4 : (64 : Int) < (n : Int) := by omega
  go_enter Tryz.func102, Tryz.ntmps102
  go_wp2
  go_ret
  exact ⟨rfl, Below.refl _ _⟩

set_option maxHeartbeats 400000 in
theorem isSeg_big (a : Option Addr) (n c : Nat) (w : World) (h : 64 < n) : Calls Tryz.prog 190 #[.slice a n c] w fun e w' => e = .returned (.bool false) ∧ Below w.heap.size w w' := by
  have q3 : ¬ (n : Int) < 1 := by omega
  have q4 : (64 : Int) < (n : Int) := by omega
  go_enter Tryz.func190, Tryz.ntmps190
  go_wp2
  go_ret
  exact ⟨rfl, Below.refl _ _⟩

theorem refIsSeg_any (v : Value) (l : List Ent) (w : World) (h : RdE w v l) : Calls Tryz.prog 102 #[v] w fun e w' => e = .returned (.bool (segD l)) ∧ Below w.heap.size w w' := by
  obtain ⟨a, c, rfl, _, _⟩ := rdE_len h
  by_cases h64 : l.length ≤ 64
  · by_cases h1 : 1 ≤ l.length
    · refine refIsSeg_core a c l w h h1 h64 (segD l) ?_
      show segD l = _
      unfold segD segB
      simp only [h1, h64, decide_true, Bool.true_and]
    · have : l = [] := List.length_eq_zero_iff.1 (by omega)
      subst this
      exact refIsSeg_zero a c w
  · have : segD l = false := by unfold segD; simp [h64]
    rw [this]
    exact refIsSeg_big a _ c w (by omega)

theorem isSeg_all (v : Value) (l : List Ent) (w : World) (h : RdE w v l) : Calls Tryz.prog 190 #[v] w fun e w' => e = .returned (.bool (segD l)) ∧ Below w.heap.size w w' := by
  by_cases h64 : l.length ≤ 64
  · have : segD l = segB l := by unfold segD; simp [h64]
    rw [this]
    exact isSeg_any v l w h h64
  · obtain ⟨a, c, rfl, _, _⟩ := rdE_len h
    have : segD l = false := by unfold segD; simp [h64]
    rw [this]
    exact isSeg_big a _ c w (by omega)

set_option maxHeartbeats 400000 in
theorem pack_not (v : Value) (l : List Ent) (w : World) (h : RdE w v l) (hS : ¬ Seg l) :
    Calls Tryz.prog 113 #[v] w fun e w' => e = .returned (.tuple #[.slice none 0 0, .int .i64 2]) ∧ Below w.heap.size w w' := by
  have CI := hide (isSeg_all v l w h)
  rw [show segD l = false from Bool.eq_false_iff.2 (fun q => hS (segD_yes.1 q))] at CI
  clear h hS
  go_enter Tryz.func113, Tryz.ntmps113
  go_wp2_with fail
  refine CI.out.mono ?_
  rintro e w1 ⟨rfl, hb1⟩
  have HB := hide hb1
  clear hb1 CI
  go_wp2
  go_ret2
  exact ⟨rfl, HB.out⟩
end Go.Proofs.YtkncboinfcnklaaGreatDoor

namespace Go.Proofs.YtkncboinfcnklaaGreatDoor
open Go.RowKit Go.Deep Go.Proofs.YtkncboinfcnklaaGreatDoor.Mth

theorem num1 (q : Int) : num q 1 = [q % 256] := by simp [num]

/-- The entries, up to one, that have a word. -/
def hasUp (l : List Ent) (x : ByteArray) (k : Nat) : List Int := ((List.range k).filter (fun i => memD x (wd (l.getD i e0).text))).map (fun i : Nat => (i : Int))

theorem filt1 {p : Nat → Bool} {k : Nat} : [k].filter p = if p k then [k] else [] := by
  cases h : p k <;> simp [List.filter, h]
theorem hasUp_no {l : List Ent} {x : ByteArray} {k : Nat} (h : memD x (wd (l.getD k e0).text) = false) : hasUp l x (k + 1) = hasUp l x k := by
  unfold hasUp
  rw [List.range_succ, List.filter_append, filt1, h, List.map_append]
  simp only [Bool.false_eq_true, if_false, List.map_nil, List.append_nil]
theorem hasUp_yes {l : List Ent} {x : ByteArray} {k : Nat} (h : memD x (wd (l.getD k e0).text) = true) : hasUp l x (k + 1) = hasUp l x k ++ [(k : Int)] := by
  unfold hasUp
  rw [List.range_succ, List.filter_append, filt1, h, List.map_append]
  simp only [if_true, List.map_cons, List.map_nil]
theorem hasUp_len (l : List Ent) (x : ByteArray) (k : Nat) : (hasUp l x k).length ≤ k := by
  unfold hasUp
  rw [List.length_map]
  exact Nat.le_trans (List.length_filter_le _ _) (by simp)

theorem hasUp_full (l : List Ent) (x : ByteArray) : hasUp l x l.length = hasTo (ws l) x := by
  unfold hasUp hasTo
  have hw : (ws l).length = l.length := by simp [ws]
  rw [hw]
  congr 1
  apply List.filter_congr
  intro i hi
  have hi' := List.mem_range.1 hi
  have e : (ws l).getD i [] = wd (l.getD i e0).text := by simp [ws, List.getD, hi']
  have key : memD x (wd (l.getD i e0).text) = true ↔ x ∈ (ws l).getD i [] := by rw [e]; exact memD_iff
  exact Bool.eq_iff_iff.2 (key.trans (@decide_eq_true_iff _ (_)).symm)

/-- What stands of one word. -/
def idxOne (l : List Ent) (x : ByteArray) : List Int := (((x.size : Int) % 256) :: tb x) ++ ((((hasUp l x l.length).length : Int) % 256) :: hasUp l x l.length)
theorem idxBy_take {l : List Ent} {W : List ByteArray} {k : Nat} (h : k < W.length) : idxBy (W.take (k + 1)) (ws l) = idxBy (W.take k) (ws l) ++ idxOne l (W.getD k ByteArray.empty) := by
  have snoc : ∀ (xs : List ByteArray) (x : ByteArray), idxBy (xs ++ [x]) (ws l) = idxBy xs (ws l) ++ idxOne l x := by
    intro xs x
    induction xs with
    | nil => simp [idxBy, idxOne, hasUp_full]
    | cons y ys ih => rw [List.cons_append, idxBy, idxBy, ih]; simp
  rw [List.take_succ_eq_append_getElem h, snoc]
  simp [List.getD, h]
theorem idxBy_le (l : List Ent) (W : List ByteArray) (k : Nat) : (idxBy (W.take k) (ws l)).length ≤ (idxBy W (ws l)).length := by
  have app : ∀ (xs ys : List ByteArray), idxBy (xs ++ ys) (ws l) = idxBy xs (ws l) ++ idxBy ys (ws l) := by
    intro xs ys
    induction xs with
    | nil => simp [idxBy]
    | cons y zs ih => rw [List.cons_append, idxBy, idxBy, ih]; simp
  conv => rhs; rw [← List.take_append_drop k W, app, List.length_append]
  omega

/-- All words of the first entries. -/
def wsTo (l : List Ent) (k : Nat) : List ByteArray := ((l.take k).map (fun e => wd e.text)).flatten
theorem wsTo_succ {l : List Ent} {k : Nat} (h : k < l.length) : wsTo l (k + 1) = wsTo l k ++ wd (l.getD k e0).text := by
  unfold wsTo
  rw [List.take_succ_eq_append_getElem h, List.map_append, List.flatten_append]
  simp [List.getD, h]

theorem body_by (l : List Ent) : body l = hd l ++ (num (mw l).length 2 ++ idxBy (mw l) (ws l)) := by unfold body; rw [idx_by]

theorem calls_num (n : Int) (many : Nat) (h0 : 0 ≤ n) (h1 : n < 9223372036854775808) (hm : many ≤ 8) (W : World) : ∀ d os, Calls Tryz.prog 165 #[.int .i64 n, .int .i64 many] (Sort.grow (redrawn W d) os) fun e w'' => e = .returned (.string (strOfNums (num n many))) ∧ ∃ p : Regrown, w'' = Sort.grow (redrawn W p.d) p.os :=
  fun _ _ => Calls.regrown_of (refBytes_any n many _ h0 h1 hm)
theorem calls_num8 (n : Int) (h0 : 0 ≤ n) (h1 : n < 9223372036854775808) (W : World) : ∀ d os, Calls Tryz.prog 165 #[.int .i64 n, .int .i64 8] (Sort.grow (redrawn W d) os) fun e w'' => e = .returned (.string (strOfNums (num n 8))) ∧ ∃ p : Regrown, w'' = Sort.grow (redrawn W p.d) p.os := calls_num n 8 h0 h1 (by omega) W
theorem calls_num1 (n : Int) (h0 : 0 ≤ n) (h1 : n < 9223372036854775808) (W : World) : ∀ d os, Calls Tryz.prog 165 #[.int .i64 n, .int .i64 1] (Sort.grow (redrawn W d) os) fun e w'' => e = .returned (.string (strOfNums (num n 1))) ∧ ∃ p : Regrown, w'' = Sort.grow (redrawn W p.d) p.os := calls_num n 1 h0 h1 (by omega) W

/-- The entries' part of a segment's bytes, and all words. -/
theorem take_mem {l : List ByteArray} {k : Nat} (h : k < l.length) (x : ByteArray) : x ∈ l.take (k + 1) ↔ x ∈ l.take k ∨ x = l.getD k ByteArray.empty := by
  rw [List.take_succ_eq_append_getElem h, List.mem_append, List.mem_singleton]
  simp only [List.getD, List.getElem?_eq_getElem h, Option.getD_some]

set_option maxRecDepth 100000 in
set_option maxHeartbeats 1000000 in
theorem laid_core (a : Option Addr) (c : Nat) (l : List Ent) (w : World) (h : RdE w (.slice a l.length c) l) (hS : Seg l) :
    Calls Tryz.prog 103 #[.slice a l.length c] w fun e w' => e = .returned (.string (strOfNums (pk l))) ∧ Below w.heap.size w w' := by
  have HR := hide h
  have HS := hide hS
  have h64 := hS.2.1
  have h1 := hS.1
  have HBL := hide (body_len hS)
  have HBT := hide (body_bts l hS.2.1)
  clear h hS
  generalize hn : l.length = n at *
  have HN := hide hn
  have hhd : Hid (hd l = num l.length 2 ++ (l.map ent).flatten) := rfl
  rw [hn] at hhd
  clear hn
  go_enter Tryz.func103, Tryz.ntmps103
  go_wp2_with (first | (go_at_call 165; refine (refBytes_any (n : Int) 2 _ (by omega) (by omega) (by omega)).mono ?_; rintro e w1 ⟨rfl, hb1⟩; have HB1 := hide hb1; clear hb1))
  go_loopw [3, 4, 5] (fun sv av i wr => ∃ (k : Nat) (m : List ByteArray), k ≤ n ∧ i = .int .i64 k ∧ sv = .string (strOfNums (num n 2 ++ ((l.take k).map ent).flatten)) ∧ Below w.heap.size w wr ∧ Rd wr av m ∧ m.Pairwise ltS ∧ (∀ x, x ∈ m ↔ x ∈ wsTo l k) ∧ m.length ≤ 61 * k) (fun _ _ i _ => n - (intOf i).toNat)
  case atStart => exact ⟨0, [], Nat.zero_le _, rfl, by simp, HB1.out, ⟨none, 0, rfl, Nat.le_refl _, by unfold maxLen; omega, fun _ => rfl, Or.inl rfl⟩, List.Pairwise.nil, fun x => by simp [wsTo], Nat.zero_le _⟩
  case round =>
    obtain ⟨k, m, hk, rfl, rfl, hb, hrd, hup, hall, hml⟩ := hrel
    by_cases hlt : k < n
    · obtain ⟨b, o, rfl, hblt, c0, c1, c2⟩ := rdE_at HR.out k (by rw [HN.out]; exact hlt)
      have c0' := (hb.cell (p := ⟨b, o + k * 3, none⟩) hblt).trans c0
      have c1' := (hb.cell (p := ⟨b, o + k * 3 + 1, none⟩) hblt).trans c1
      have c2' := (hb.cell (p := ⟨b, o + k * 3 + 2, none⟩) hblt).trans c2
      have hie : isE (l.getD k e0) = true := seg_ent HS.out _ (by rw [List.getD, List.getElem?_eq_getElem (by rw [HN.out]; exact hlt)]; exact List.getElem_mem _)
      have HTK := hide (ents_take (l := l) (k := k) (by rw [HN.out]; exact hlt))
      have HWS := hide (wsTo_succ (l := l) (k := k) (by rw [HN.out]; exact hlt))
      have hl1 : (num n 2 ++ ((l.take k).map ent).flatten).length ≤ 524288 := by
        have q1 := ents_len (l.take k) (fun e he => seg_text HS.out e (List.mem_of_mem_take he))
        rw [List.length_append, num_len]
        rw [List.length_take] at q1
        omega
      have HSS : Hid (num n 2 ++ ((l.take (k + 1)).map ent).flatten = (num n 2 ++ ((l.take k).map ent).flatten) ++ ent (l.getD k e0)) := by show _ = _; rw [HTK.out, ← List.append_assoc]
      generalize num n 2 ++ ((l.take k).map ent).flatten = S at *
      generalize l.getD k e0 = e at *
      obtain ⟨s, t, x⟩ := e
      obtain ⟨y0, y1, y2, y3, y4⟩ := isE_yes hie
      simp only at c0' c1' c2'
      have HB := hide hb
      have HRD := hide hrd
      have HU := hide hup
      have HA := hide hall
      clear hb hrd hup hall c0 c1 c2 hie
      have d0 := cell_regrown c0'
      have d1 := cell_regrown c1'
      have d2 := cell_regrown c2'
      have N1 := hide (calls_num8 s (by omega) (by omega) wr)
      have N2 := hide (calls_num8 t (by omega) (by omega) wr)
      have N3 := hide (calls_num1 (x.size : Int) (by omega) (by omega) wr)
      have a1 := fun w => add_at S (num s 8) w (by rw [num_len]; omega)
      have a2 := fun w => add_at (S ++ num s 8) (num t 8) w (by simp only [List.length_append, num_len]; omega)
      have a3 := fun w => add_at (S ++ num s 8 ++ num t 8) (num (x.size : Int) 1) w (by simp only [List.length_append, num_len]; omega)
      have a4 := fun w => add_at (S ++ num s 8 ++ num t 8 ++ num (x.size : Int) 1) (tb x) w (by simp only [List.length_append, num_len, tb_len]; omega)
      rw [of_tb] at a4
      have HFS : Hid (S ++ ent ⟨s, t, x⟩ = S ++ num s 8 ++ num t 8 ++ num (x.size : Int) 1 ++ tb x) := by
        show _ = _
        rw [num1]
        unfold ent
        simp only [List.append_assoc, List.singleton_append]
      clear c0' c1' c2' HTK
      generalize hS4 : strOfNums (S ++ num s 8 ++ num t 8 ++ num (x.size : Int) 1 ++ tb x) = S4 at *
      generalize hS3 : strOfNums (S ++ num s 8 ++ num t 8 ++ num (x.size : Int) 1) = S3 at *
      generalize hS2 : strOfNums (S ++ num s 8 ++ num t 8) = S2 at *
      generalize hS1 : strOfNums (S ++ num s 8) = S1 at *
      generalize hS0 : strOfNums S = S0 at *
      generalize hB1 : strOfNums (num s 8) = B1 at *
      generalize hB2 : strOfNums (num t 8) = B2 at *
      generalize hB3 : strOfNums (num (x.size : Int) 1) = B3 at *
      have HS4 := hide hS4
      clear hS4 hS3 hS2 hS1 hS0 hB1 hB2 hB3
      go_wp2
      refine wp_region_quiet_below (by kernel_rfl) (by kernel_rfl) ?_
      repeat (go_big_quiet_step (first | (go_at_call_of 165 (Value.int IntKind.i64 s); exact N1.out _ _) | (go_at_call_of 165 (Value.int IntKind.i64 t); exact N2.out _ _) | (go_at_call_of 165 (Value.int IntKind.i64 (x.size : Int)); exact N3.out _ _)))
      refine wpQuiet_nil ?_
      intro _ hw'
      obtain ⟨⟨dq, osq⟩, hw''⟩ := hw'
      subst hw''
      have e2 := d2 dq osq
      have HB2 := hide (below_regrown wr dq osq)
      have HR2 := hide (HRD.out.below HB2.out)
      clear d0 d1 d2 N1 N2 N3 a1 a2 a3 a4
      generalize Sort.grow (redrawn wr dq) osq = w2 at *
      have hxl := wd_len x
      have HB20 := hide (HB.out.trans (HB2.out.mono HB.out.size))
      go_wp2_with (first | (go_at_call 109; refine (refWords_any x _ (by omega)).mono ?_; rintro e w3 ⟨v3, rfl, hb3, hr3⟩; have HB3 := hide hb3; have HX := hide hr3; clear hb3 hr3))
      obtain ⟨xa, xc, rfl, hxc, hxm⟩ := rd_len HX.out
      unfold maxLen at hxm
      have HR3 := hide (HR2.out.below HB3.out)
      have HB30 := hide (HB20.out.trans (HB3.out.mono HB20.out.size))
      generalize hL : wd x = X at *
      generalize hXn : X.length = xn at *
      have HXN := hide hXn
      clear hXn hL
      go_loopw [4, 7] (fun av i wr => ∃ (j : Nat) (m' : List ByteArray), j ≤ xn ∧ i = .int .i64 j ∧ Below w3.heap.size w3 wr ∧ Rd wr av m' ∧ m'.Pairwise ltS ∧ (∀ z, z ∈ m' ↔ z ∈ m ∨ z ∈ X.take j) ∧ m'.length ≤ 61 * k + j) (fun _ i _ => xn - (intOf i).toNat)
      case atStart => exact ⟨0, m, Nat.zero_le _, rfl, Below.refl _ _, HR3.out, HU.out, fun z => by simp, by omega⟩
      case round =>
        obtain ⟨j, m', hj, rfl, hb4, hr4, hu4, ha4, hl4⟩ := hrel
        by_cases hjlt : j < xn
        · obtain ⟨b4, o4, rfl, hblt4, hcell4⟩ := rd_at (HX.out.below hb4) j (by rw [HXN.out]; exact hjlt)
          have HTM := hide (fun z => take_mem (l := X) (k := j) (by rw [HXN.out]; exact hjlt) z)
          generalize X.getD j ByteArray.empty = y at *
          have CP := hide (putText_any y hr4 (by omega))
          have hpl := putS_len y m'
          have HB4 := hide hb4
          have HU4 := hide (putS_up y m' hu4)
          have HA4 : Hid (∀ z, z ∈ putS y m' ↔ z ∈ m ∨ z ∈ X.take (j + 1)) := by
            intro z
            rw [putS_mem, ha4 z, HTM.out z]
            constructor
            · rintro (q | q | q)
              · exact Or.inr (Or.inr q)
              · exact Or.inl q
              · exact Or.inr (Or.inl q)
            · rintro (q | q | q)
              · exact Or.inr (Or.inl q)
              · exact Or.inr (Or.inr q)
              · exact Or.inl q
          obtain ⟨ma, mc, rfl, _, _⟩ := rd_len hr4
          clear hb4 hu4 ha4 hr4
          go_wp2_with (first | (go_at_call 166; refine CP.out.mono ?_; rintro e w5 ⟨v5, rfl, hb5, hr5⟩; have HB5 := hide hb5; have HR5 := hide hr5; clear hb5 hr5))
          go_roundw
          case rel => exact ⟨j + 1, putS y m', by omega, by go_num, HB4.out.trans (HB5.out.mono HB4.out.size), HR5.out, HU4.out, HA4.out, by omega⟩
          case measure => simp [intOf]; omega
        · have hje : j = xn := by omega
          have HA4 : Hid (∀ z, z ∈ m' ↔ z ∈ wsTo l (k + 1)) := by
            intro z
            rw [ha4 z, List.take_of_length_le (by rw [HXN.out]; omega), HWS.out, List.mem_append, HA.out z]
          have HB4 := hide (HB30.out.trans (hb4.mono HB30.out.size))
          have HR4 := hide hr4
          have HU4 := hide hu4
          clear hb4 hr4 hu4 ha4
          go_wp2
          go_roundw
          case rel => exact ⟨k + 1, m', by omega, by go_num, by rw [HSS.out, HFS.out, HS4.out], HB4.out, HR4.out, HU4.out, HA4.out, by omega⟩
          case measure => simp [intOf]; omega
    · have hke : k = n := by omega
      subst hke
      have hfull : (l.take k) = l := List.take_of_length_le (by rw [HN.out]; exact Nat.le_refl _)
      have hmw : m = mw l := by
        refine mergedS_ext hup (fun x => ?_)
        rw [hall x]
        unfold wsTo ws
        rw [hfull]
      subst hmw
      rw [hfull, ← hhd.out]
      have HBY := hide (body_by l)
      have hmlen := hml
      have HRD := hide hrd
      have HB := hide hb
      obtain ⟨ma, mc, rfl, hmc, hmm⟩ := rd_len hrd
      unfold maxLen at hmm
      have HMS := hide (fun x (hx : x ∈ mw l) => mw_size l (seg_text HS.out) hx)
      generalize hmn : (mw l).length = mn at *
      have HMN := hide hmn
      have hbl : (hd l).length + 2 + (idxBy (mw l) (ws l)).length ≤ 500000 := by
        have := HBL.out
        rw [HBY.out] at this
        simp only [List.length_append, num_len] at this
        omega
      have ha0 := fun w => add_at (hd l) (num (mn : Int) 2) w (by rw [num_len]; omega)
      have HT0 : Hid ((hd l ++ num (mn : Int) 2).length = (hd l).length + 2) := by show _ = _; rw [List.length_append, num_len]
      have HBY2 : Hid (body l = (hd l ++ num (mn : Int) 2) ++ idxBy (mw l) (ws l)) := by show _ = _; rw [HBY.out, List.append_assoc]
      clear hmn hup hall hrd hb hfull HBY
      generalize hd l ++ num (mn : Int) 2 = T0 at *
      generalize strOfNums (hd l) = H0 at *
      go_wp2_with (first | (go_at_call 165; refine (refBytes_any (mn : Int) 2 _ (by omega) (by omega) (by omega)).mono ?_; rintro e w4 ⟨rfl, hb4⟩; have HB4 := hide hb4; clear hb4))
      clear ha0
      have HB40 := hide (HB.out.trans (HB4.out.mono HB.out.size))
      have HRD4 := hide (HRD.out.below HB4.out)
      have HR4 := hide (HR.out.below HB40.out)
      go_loopw [3, 8] (fun sv i wr => ∃ q : Nat, q ≤ mn ∧ i = .int .i64 q ∧ sv = .string (strOfNums (T0 ++ idxBy ((mw l).take q) (ws l))) ∧ Below w4.heap.size w4 wr) (fun _ i _ => mn - (intOf i).toNat)
      case atStart => exact ⟨0, Nat.zero_le _, rfl, by simp [idxBy], Below.refl _ _⟩
      case round =>
        obtain ⟨q, hq, rfl, rfl, hb5⟩ := hrel
        have hil := idxBy_le l (mw l) q
        by_cases hqlt : q < mn
        · obtain ⟨b4, o4, rfl, hblt4, hcell4⟩ := rd_at HRD4.out q (by rw [HMN.out]; exact hqlt)
          have hcell5 := (hb5.cell (p := ⟨b4, o4 + q, none⟩) hblt4).trans hcell4
          have HIT := hide (idxBy_take (l := l) (W := mw l) (k := q) (by rw [HMN.out]; exact hqlt))
          have hysz := HMS.out ((mw l).getD q ByteArray.empty) (by rw [List.getD, List.getElem?_eq_getElem (by rw [HMN.out]; exact hqlt)]; exact List.getElem_mem _)
          have hone : Hid (idxOne l ((mw l).getD q ByteArray.empty) = ((((mw l).getD q ByteArray.empty).size : Int) % 256 :: tb ((mw l).getD q ByteArray.empty)) ++ ((((hasUp l ((mw l).getD q ByteArray.empty) k).length : Int) % 256) :: hasUp l ((mw l).getD q ByteArray.empty) k)) := by show _ = _; unfold idxOne; rw [HN.out]
          have HSL : Hid ((T0 ++ idxBy ((mw l).take q) (ws l)).length ≤ 500000) := by show _ ≤ _; rw [List.length_append, HT0.out]; omega
          have HNX : Hid (T0 ++ idxBy ((mw l).take (q + 1)) (ws l) = (T0 ++ idxBy ((mw l).take q) (ws l)) ++ idxOne l ((mw l).getD q ByteArray.empty)) := by show _ = _; rw [HIT.out, List.append_assoc]
          generalize T0 ++ idxBy ((mw l).take q) (ws l) = S at *
          generalize (mw l).getD q ByteArray.empty = y at *
          generalize hS0 : strOfNums S = S0 at *
          have HS0 := hide hS0
          have HB5 := hide hb5
          have HR5 := hide (HR4.out.below hb5)
          clear hb5 hS0 HIT hcell4 hil
          go_wp2_with fail
          go_loopw [9, 10, 11] (fun nv tv i wr' => ∃ j : Nat, j ≤ k ∧ i = .int .i64 j ∧ nv = .int .i64 ((hasUp l y j).length : Int) ∧ tv = .string (strOfNums (hasUp l y j)) ∧ Below wr.heap.size wr wr') (fun _ _ i _ => k - (intOf i).toNat)
          case atStart => exact ⟨0, Nat.zero_le _, rfl, by simp [hasUp], by simp [hasUp, strOfNums], Below.refl _ _⟩
          case round =>
            obtain ⟨j, hj, rfl, rfl, rfl, hb6⟩ := hrel
            have hul := hasUp_len l y j
            have hcell6 := (hb6.cell (p := ⟨b4, o4 + q, none⟩) (World.block_lt_of_cell? _ _ hcell5)).trans hcell5
            by_cases hjlt : j < k
            · obtain ⟨b, o, rfl, hblt, _, _, c2⟩ := rdE_at (HR5.out.below hb6) j (by rw [HN.out]; exact hjlt)
              have hxs : (l.getD j e0).text.size ≤ 60 := seg_text HS.out _ (by rw [List.getD, List.getElem?_eq_getElem (by rw [HN.out]; exact hjlt)]; exact List.getElem_mem _)
              have HNO := hide (fun h => hasUp_no (l := l) (x := y) (k := j) h)
              have HYES := hide (fun h => hasUp_yes (l := l) (x := y) (k := j) h)
              generalize (l.getD j e0).text = x at *
              have CH0 := refHas_any x y
              generalize memD y (wd x) = hb at *
              have CH := hide (fun d os => Calls.regrown_of (w := wr) (d := d) (os := os) (CH0 _ (by omega)))
              have HB6 := hide hb6
              have d1 := cell_regrown hcell6
              have d2 := cell_regrown c2
              clear CH0 hb6 hcell6 c2
              go_wp2
              refine wp_region_quiet_below (by kernel_rfl) (by kernel_rfl) ?_
              repeat (go_big_quiet_step (first | (go_at_call 167; exact CH.out _ _)))
              refine wpQuiet_nil ?_
              intro _ hw'
              obtain ⟨⟨dq, osq⟩, hw''⟩ := hw'
              subst hw''
              have HB7 := hide (HB6.out.trans ((below_regrown wr dq osq).mono HB6.out.size))
              clear d1 d2 CH
              generalize Sort.grow (redrawn wr dq) osq = w7 at *
              cases hb with
              | false =>
                have hno := HNO.out rfl
                go_wp2
                go_roundw
                case rel => exact ⟨j + 1, by omega, by go_num, by rw [hno], by rw [hno], HB7.out⟩
                case measure => simp [intOf]; omega
              | true =>
                have HYS := hide (HYES.out rfl)
                have ha1 := fun w => add_at (hasUp l y j) [(j : Int)] w (by simp; omega)
                have HN1 : Hid (num (j : Int) 1 = [(j : Int)]) := by show _ = _; rw [num1, Int.emod_eq_of_lt (by omega) (by omega)]
                generalize hasUp l y j = U at *
                go_wp2_with (first | (go_at_call 165; refine (refBytes_any (j : Int) 1 _ (by omega) (by omega) (by omega)).mono ?_; rintro e w8 ⟨rfl, hb8⟩; have HB8 := hide hb8; clear hb8; rw [HN1.out]))
                go_roundw
                case rel => exact ⟨j + 1, by omega, by go_num, by rw [HYS.out, List.length_append, List.length_singleton]; go_num, by rw [HYS.out], HB7.out.trans (HB8.out.mono HB7.out.size)⟩
                case measure => simp [intOf]; omega
            · have hje : j = k := by omega
              subst hje
              have HB6 := hide hb6
              clear hb6
              generalize hasUp l y j = U at *
              generalize hun : U.length = un at *
              have HUN := hide hun
              have HFS : Hid (S ++ idxOne l y = S ++ num (y.size : Int) 1 ++ tb y ++ num (un : Int) 1 ++ U) := by
                show _ = _
                rw [hone.out, num1, num1]
                simp only [List.append_assoc, List.nil_append, List.cons_append]
              have N1 := hide (calls_num1 (y.size : Int) (by omega) (by omega) wr)
              have N2 := hide (calls_num1 (un : Int) (by omega) (by omega) wr)
              have hsl := HSL.out
              have a1 := fun w => add_at S (num (y.size : Int) 1) w (by rw [num_len]; omega)
              have a2 := fun w => add_at (S ++ num (y.size : Int) 1) (tb y) w (by simp only [List.length_append, num_len, tb_len]; omega)
              have a3 := fun w => add_at (S ++ num (y.size : Int) 1 ++ tb y) (num (un : Int) 1) w (by simp only [List.length_append, num_len, tb_len]; omega)
              have a4 := fun w => add_at (S ++ num (y.size : Int) 1 ++ tb y ++ num (un : Int) 1) U w (by simp only [List.length_append, num_len, tb_len]; omega)
              rw [of_tb] at a2
              have d1 := cell_regrown hcell6
              clear hcell6 hun
              rw [HS0.out] at a1
              generalize hS4 : strOfNums (S ++ num (y.size : Int) 1 ++ tb y ++ num (un : Int) 1 ++ U) = S4 at *
              generalize hS3 : strOfNums (S ++ num (y.size : Int) 1 ++ tb y ++ num (un : Int) 1) = S3 at *
              generalize hS2 : strOfNums (S ++ num (y.size : Int) 1 ++ tb y) = S2 at *
              generalize hS1 : strOfNums (S ++ num (y.size : Int) 1) = S1 at *
              generalize hB1 : strOfNums (num (y.size : Int) 1) = B1 at *
              generalize hB2 : strOfNums (num (un : Int) 1) = B2 at *
              generalize hB3 : strOfNums U = B3 at *
              have HS4 := hide hS4
              clear hS4 hS3 hS2 hS1 hB1 hB2 hB3
              go_wp2
              refine wp_region_quiet_below (by kernel_rfl) (by kernel_rfl) ?_
              repeat (go_big_quiet_step (first | (go_at_call_of 165 (Value.int IntKind.i64 (y.size : Int)); exact N1.out _ _) | (go_at_call_of 165 (Value.int IntKind.i64 (un : Int)); exact N2.out _ _)))
              refine wpQuiet_nil ?_
              intro _ hw'
              obtain ⟨⟨dq, osq⟩, hw''⟩ := hw'
              subst hw''
              have HB7 := hide (HB5.out.trans ((HB6.out.trans ((below_regrown wr dq osq).mono HB6.out.size)).mono HB5.out.size))
              clear d1 N1 N2 a1 a2 a3 a4
              generalize Sort.grow (redrawn wr dq) osq = w7 at *
              go_wp2
              go_roundw
              case rel => exact ⟨q + 1, by omega, by go_num, by rw [HNX.out, HFS.out, HS4.out], HB7.out⟩
              case measure => simp [intOf]; omega
        · have hqe : q = mn := by omega
          subst hqe
          rw [List.take_of_length_le (by rw [HMN.out]; exact Nat.le_refl _), ← HBY2.out]
          have hpk : Hid (pk l = body l ++ num (sumv (body l)) 4) := rfl
          have hbl2 := HBL.out
          have hsv := sumv_bd (body l)
          have hsz : (strOfNums (body l)).size ≤ 1048576 := by rw [size_nums]; omega
          have CS := hide (refSum_any (strOfNums (body l)) wr hsz)
          rw [tb_of HBT.out] at CS
          have ha1 := fun w => add_at (body l) (num (sumv (body l)) 4) w (by rw [num_len]; omega)
          rw [← hpk.out] at ha1
          have HB5 := hide hb5
          clear hb5 hsz
          generalize sumv (body l) = sv at *
          generalize strOfNums (body l) = BS at *
          go_wp2_with (first | (go_at_call 168; refine CS.out.mono ?_; rintro e w' ⟨rfl, hw⟩; rw [hw]; clear hw w') | (go_at_call 165; refine (refBytes_any sv 4 _ (by omega) (by omega) (by omega)).mono ?_; rintro e w8 ⟨rfl, hb8⟩; have HB8 := hide hb8; clear hb8))
          go_ret
          exact ⟨rfl, HB40.out.trans ((HB5.out.trans (HB8.out.mono HB5.out.size)).mono HB40.out.size)⟩
end Go.Proofs.YtkncboinfcnklaaGreatDoor

namespace Go.Proofs.YtkncboinfcnklaaGreatDoor
open Go.RowKit Go.Deep Go.Proofs.YtkncboinfcnklaaGreatDoor.Mth

theorem laid_any (v : Value) (l : List Ent) (w : World) (h : RdE w v l) (hS : Seg l) :
    Calls Tryz.prog 103 #[v] w fun e w' => e = .returned (.string (strOfNums (pk l))) ∧ Below w.heap.size w w' := by
  obtain ⟨a, c, rfl, _, _⟩ := rdE_len h
  exact laid_core a c l w h hS

set_option maxHeartbeats 400000 in
theorem refPack_yes (v : Value) (l : List Ent) (w : World) (h : RdE w v l) (hS : Seg l) :
    Calls Tryz.prog 63 #[v] w fun e w' => e = .returned (.tuple #[.string (strOfNums (pk l)), .int .i64 0]) ∧ Below w.heap.size w w' := by
  have CI := hide (refIsSeg_any v l w h)
  rw [segD_yes.2 hS] at CI
  have HR := hide h
  have HS := hide hS
  clear h hS
  go_enter Tryz.func63, Tryz.ntmps63
  go_wp2_with fail
  refine CI.out.mono ?_
  rintro e w1 ⟨rfl, hb1⟩
  have HB := hide hb1
  have CL := hide (laid_any v l w1 (HR.out.below hb1) HS.out)
  clear hb1 CI
  go_wp2_with fail
  refine CL.out.mono ?_
  rintro e w2 ⟨rfl, hb2⟩
  have HB2 := hide (HB.out.trans (hb2.mono HB.out.size))
  clear hb2 CL
  go_wp2
  go_ret2
  exact ⟨rfl, HB2.out⟩

set_option maxHeartbeats 400000 in
theorem refPack_no (v : Value) (l : List Ent) (w : World) (h : RdE w v l) (hS : ¬ Seg l) :
    Calls Tryz.prog 63 #[v] w fun e w' => e = .returned (.tuple #[.string ⟨#[]⟩, .int .i64 2]) ∧ Below w.heap.size w w' := by
  have CI := hide (refIsSeg_any v l w h)
  rw [show segD l = false from Bool.eq_false_iff.2 (fun q => hS (segD_yes.1 q))] at CI
  clear h hS
  go_enter Tryz.func63, Tryz.ntmps63
  go_wp2_with fail
  refine CI.out.mono ?_
  rintro e w1 ⟨rfl, hb1⟩
  have HB := hide hb1
  clear hb1 CI
  go_wp2
  go_ret2
  exact ⟨rfl, HB.out⟩

theorem slice_at (s : ByteArray) (i j : Nat) (hij : i ≤ j) (hj : j ≤ s.size) (w : World) : (Instr.slice 9 (.string s) (some (.int .i64 (i : Int))) (some (.int .i64 (j : Int))) none).run Tryz.prog w = .ok (.string (strOfNums (((tb s).drop i).take (j - i)))) w := by
  rw [run_slice_string (P := Tryz.prog) w 9 s .i64 .i64 (i : Int) (j : Int) Tryz.underlying9 (by omega) (by omega) (by omega)]
  congr 2
  apply bytes_ext
  rw [Int.toNat_natCast, Int.toNat_natCast, ByteArray.data_extract, Array.toList_extract, List.extract_eq_take_drop]
  have : strOfNums (((tb s).drop i).take (j - i)) = ofL ((s.data.toList.drop i).take (j - i)) := by
    unfold strOfNums tb ofL
    rw [← List.map_drop, ← List.map_take, List.map_map]
    congr 2
    conv => rhs; rw [← List.map_id ((s.data.toList.drop i).take (j - i))]
    apply List.map_congr_left
    intro u _
    simp
  rw [this, ofL_data]

/-- What the document's reading comes to. -/
def RefPost (w : World) (l : List Int) (e : Ending) (w' : World) : Prop := (isPk l ∧ ∃ v', e = .returned (.tuple #[v', .int .i64 0]) ∧ CurE w w' v' (rdAll l)) ∨ (¬ isPk l ∧ e = .returned (.tuple #[.slice none 0 0, .int .i64 2]) ∧ Below w.heap.size w w')

theorem curE_drewN {w0 w : World} {v : Value} {l : List Ent} {n : Nat} (h : CurE w0 w v l) : CurE w0 (w.drewN n) v l := ⟨⟨h.1.os, h.1.tape, h.1.output, h.1.size, h.1.block⟩, h.2⟩

theorem step_own {P : Program} (w : World) {ops : Array Oper} {o : Oper} {a : Act} {K : Act → World → Prop} {Q : Exit → Act → World → Prop} {E : Prop} (hgd : o.guard = none) (s x : Operand) (t : TypeId)
    (ho : o.op = .call { callee := .builtin .append, args := #[s, x], argTypes := #[t, t] })
    (base : Nat) (e : TypeId) (i : TypeInfo) (z : Value) (size bytes : Nat) (ht : P.underlying t = some (.slice e)) (hi : P.info? e = some i) (hz : i.zero = some z)
    (hsize : i.size = size) (hby : i.bytes = bytes) (hzs : z.cells.size = size) (hsz : 0 < size)
    (v : Value) (n : Nat) (xs : List Value) (hs : a.eval s = v) (hown : w.ownsRow base e size v n xs)
    (ad : Addr) (m c : Nat) (news : List Value) (hx : a.eval x = .slice (some ad) m c) (hl : news.length = m * size) (hnews : ∀ j u, news[j]? = some u → w.cell? (ad.add j) = some u) (h1 : ∀ u ∈ news, u.oneCell' = true)
    (h63 : n + m ≤ maxLen) (hbytes : (n + m) * bytes ≤ 140737488355328) (hbase : base ≤ w.heap.size)
    (h : ∀ v' w', w'.ownsRow base e size v' (n + m) (xs ++ news) → w.grownBy w' v.ownBlock → K (a.put o.dst v') w') :
    if Region.wanted o (yielded ops a.tmps) = true then Oper.wp P o a w K Q else E := by
  have hw : Region.wanted o (yielded ops a.tmps) = true := by simp [Region.wanted, hgd]
  rw [if_pos hw]
  exact wp_append_own w s x t ho base e i z size bytes ht hi hz hsize hby hzs hsz v n xs hs hown ad m c news hx hl hnews h1 h63 hbytes hbase fun v' w' h2 h3 _ => h v' w' h2 h3

set_option maxRecDepth 100000 in
set_option maxHeartbeats 1000000 in
theorem refUnpack_any (s : ByteArray) (w : World) (hs : s.size ≤ 1048576) :
    Calls Tryz.prog 119 #[.string s] w (RefPost w (tb s)) := by
  have HL := hide (tb_len s)
  have HBT := hide (tb_bts s)
  obtain ⟨i0, hi0, hz0, hz1, hz2⟩ := info_parts Tryz.info66
  have hn2 := rnum_bd2 (tb_bts s)
  obtain ⟨N, hN⟩ := Int.eq_ofNat_of_zero_le hn2.1
  have HREF : Hid (∀ l, (refRead N ((tb s).drop 2) = some l ∧ Seg l ∧ pk l = tb s) ↔ (isPk (tb s) ∧ rdAll (tb s) = l)) := by
    intro l
    have := ref_isPk (tb s) l
    rwa [hN, Int.toNat_natCast] at this
  have hNb : N < 65536 := by omega
  have CN0 := hide (refNumber_any s 0 2 w hs (by omega) (by omega))
  rw [List.drop_zero, hN] at CN0
  clear hn2 hN
  go_enter Tryz.func119, Tryz.ntmps119
  go_wp2_with (first | (go_at_call 197; refine CN0.out.mono ?_; rintro e w' ⟨rfl, hw⟩; rw [hw]; clear hw w'))
  clear CN0
  go_loopw [4, 5, 6] (fun lv av nv wr => ∃ (r a : Nat) (done : List Ent), nv = .int .i64 r ∧ r < 65536 ∧ av = .int .i64 a ∧ a ≤ 1048578 ∧ 17 * done.length + 2 ≤ a ∧ CurE w wr lv done ∧ refRead N ((tb s).drop 2) = (refRead r ((tb s).drop a)).map (done ++ ·)) (fun _ _ nv _ => (intOf nv).toNat)
  case atStart => exact ⟨N, 2, [], rfl, hNb, rfl, by omega, by simp, ⟨Below.refl _ _, World.ownsRow_nil _ _ _ _⟩, by simp⟩
  case round =>
    obtain ⟨r, a, done, rfl, hr, rfl, ha, hdl, hcur, href⟩ := hrel
    have HC := hide hcur
    have HF := hide href
    have hsz := hcur.1.size
    clear hcur href
    by_cases hgo : 0 < r ∧ a < s.size
    · obtain ⟨hr0, hal⟩ := hgo
      obtain ⟨r', rfl⟩ : ∃ r', r = r' + 1 := ⟨r - 1, by omega⟩
      have hz := rnum_bd1 (bts_drop HBT.out (a + 16))
      obtain ⟨zn, hzn⟩ := Int.eq_ofNat_of_zero_le hz.1
      have hzb : zn < 256 := by omega
      have CN1 := hide (refNumber_any s (a + 16) 1 wr hs (by omega) (by omega))
      rw [hzn, Int.natCast_add] at CN1
      have hne : (tb s).drop a ≠ [] := by
        intro q
        have := congrArg List.length q
        rw [List.length_drop, HL.out] at this
        simp at this
        omega
      have hrr := HF.out
      rw [refRead, if_neg hne, List.drop_drop, hzn, List.length_drop, HL.out] at hrr
      by_cases hlong : s.size < a + 17 + zn
      · rw [if_pos (by omega), Option.map_none] at hrr
        have hnp : Hid (¬ isPk (tb s)) := by
          intro q
          have := ((HREF.out (rdAll (tb s))).2 ⟨q, rfl⟩).1
          rw [hrr] at this
          cases this
        have hl2 : (s.size : Int) < (a : Int) + 17 + zn := by omega
        clear hrr hne hz hzn
        go_wp2_with (first | (go_at_call 197; refine CN1.out.mono ?_; rintro e w' ⟨rfl, hw⟩; rw [hw]; clear hw w'))
        go_ret2
        exact Or.inr ⟨hnp.out, rfl, HC.out.1⟩
      · have CA := hide (fun n => refNumber_any s a 8 (wr.drewN n) hs (by omega) (by omega))
        have CB := hide (fun n => refNumber_any s (a + 8) 8 (wr.drewN n) hs (by omega) (by omega))
        have hsl := fun w => slice_at s (a + 17) (a + 17 + zn) (by omega) (by omega) w
        rw [show a + 17 + zn - (a + 17) = zn by omega] at hsl
        rw [show ((a + 17 + zn : Nat) : Int) = (a : Int) + 17 + (zn : Int) by omega, show ((a + 17 : Nat) : Int) = (a : Int) + 17 by omega] at hsl
        rw [show ((a + 8 : Nat) : Int) = (a : Int) + 8 by omega] at CB
        rw [if_neg (by omega), List.drop_drop, Int.toNat_natCast, List.drop_drop, List.drop_drop] at hrr
        have hl2 : ¬ ((s.size : Int) < (a : Int) + 17 + zn) := by omega
        generalize rnum ((tb s).drop a) 8 = E1 at *
        generalize rnum ((tb s).drop (a + 8)) 8 = E2 at *
        generalize strOfNums (((tb s).drop (a + 17)).take zn) = E3 at *
        have HRR := hide hrr
        have hw1 : IntKind.i64.wrap ((a : Int) + 17) = (a : Int) + 17 := by rw [IntKind.wrap_i64]; omega
        have hw2 : IntKind.i64.wrap ((a : Int) + 17 + (zn : Int)) = (a : Int) + 17 + (zn : Int) := by rw [IntKind.wrap_i64]; omega
        have hw3 : IntKind.i64.wrap ((a : Int) + 8) = (a : Int) + 8 := by rw [IntKind.wrap_i64]; omega
        clear hrr hne hz hzn
        go_wp2_with (first | (go_at_call 197; refine CN1.out.mono ?_; rintro e w' ⟨rfl, hw⟩; rw [hw]; clear hw w'))
        go_region_held3 (fun _ => True) (exact trivial)
          (first
            | (go_at_call_of 197 (Value.int IntKind.i64 (a : Int)); refine (CA.out _).mono ?_; rintro e w' ⟨rfl, hw⟩; rw [hw]; clear hw w')
            | (go_at_call 197; refine (CB.out _).mono ?_; rintro e w' ⟨rfl, hw⟩; rw [hw]; clear hw w')
            | (refine step_own _ rfl _ _ 57 rfl w.heap.size 66 i0 (.agg #[.int .i64 0, .int .i64 0, .string ByteArray.empty]) 3 32 Tryz.underlying57 hi0 hz0 hz1 hz2 rfl (by decide) _ _ _ rfl ((curE_drewN HC.out).2.alloc _) ⟨wr.heap.size, 0, none⟩ 1 1 [.int .i64 E1, .int .i64 E2, .string E3] rfl rfl (cell_three_new _ _ _ _ _) (by intro u hu; simp at hu; rcases hu with rfl | rfl | rfl <;> rfl) (by unfold maxLen; omega) (by omega) (by simp; omega) ?_; intro v4 w4 hown4 hgrow4; have HC4 := hide (curE_append (e := ⟨E1, E2, E3⟩) (curE_drewN HC.out) hown4 hgrow4); clear hown4 hgrow4))
        have hdl2 : 17 * (done ++ [(⟨E1, E2, E3⟩ : Ent)]).length + 2 ≤ a + 17 + zn := by rw [List.length_append, List.length_singleton]; omega
        have HRR2 : Hid (refRead N ((tb s).drop 2) = (refRead r' ((tb s).drop (a + 17 + zn))).map ((done ++ [(⟨E1, E2, E3⟩ : Ent)]) ++ ·)) := by
          show _ = _
          rw [HRR.out, Option.map_map, Nat.add_assoc]
          congr 1
          funext x
          simp
        go_wp2
        go_roundw
        case rel => exact ⟨r', a + 17 + zn, _, by go_num, by omega, by go_num, by omega, hdl2, HC4.out, HRR2.out⟩
        case measure => simp [intOf]
    · have hrd : Hid (refRead N ((tb s).drop 2) = some done) := by
        show _ = _
        rw [HF.out]
        by_cases h0 : r = 0
        · subst h0; simp [refRead]
        · obtain ⟨r', rfl⟩ : ∃ r', r = r' + 1 := ⟨r - 1, by omega⟩
          have : (tb s).drop a = [] := List.drop_eq_nil_of_le (by rw [HL.out]; omega)
          rw [this]
          simp [refRead]
      have HRE := hide (rdE_own HC.out.2)
      by_cases hS : Seg done
      · have CP := hide (refPack_yes u4 done wr HRE.out hS)
        have HPB := hide (pk_bts done hS.2.1)
        by_cases hp : pk done = tb s
        · have hyes := hide ((HREF.out done).1 ⟨hrd.out, hS, hp⟩)
          have hes : strOfNums (pk done) = s := by rw [hp, of_tb]
          rw [hes] at CP
          have heq : (s.toList == s.toList) = true := by simp
          clear hS hp hes
          by_cases h0 : r = 0
          · subst h0
            clear hgo
            go_wp2_with (first | (go_at_call 63; refine CP.out.mono ?_; rintro e w2 ⟨rfl, hb2⟩; have HB2 := hide hb2; clear hb2))
            go_ret2
            refine Or.inl ⟨hyes.out.1, _, rfl, ?_⟩
            rw [hyes.out.2]
            exact curE_below HC.out HB2.out
          · have hge : ¬ a < s.size := fun q => hgo ⟨by omega, q⟩
            clear hgo
            go_wp2_with (first | (go_at_call 63; refine CP.out.mono ?_; rintro e w2 ⟨rfl, hb2⟩; have HB2 := hide hb2; clear hb2))
            go_ret2
            refine Or.inl ⟨hyes.out.1, _, rfl, ?_⟩
            rw [hyes.out.2]
            exact curE_below HC.out HB2.out
        · have hno : Hid (¬ isPk (tb s)) := by
            intro q
            have := (HREF.out (rdAll (tb s))).2 ⟨q, rfl⟩
            rw [hrd.out] at this
            obtain ⟨e1, _, e2⟩ := this
            injection e1 with e1
            rw [← e1] at e2
            exact hp e2
          have heq : ((strOfNums (pk done)).toList == s.toList) = false := by
            refine eqS_false (fun q => hp ?_)
            rw [← tb_of HPB.out, q]
          clear hS hp
          generalize strOfNums (pk done) = PS at *
          by_cases h0 : r = 0
          · subst h0
            clear hgo
            go_wp2_with (first | (go_at_call 63; refine CP.out.mono ?_; rintro e w2 ⟨rfl, hb2⟩; have HB2 := hide hb2; clear hb2))
            go_ret2
            exact Or.inr ⟨hno.out, rfl, HC.out.1.trans (HB2.out.mono HC.out.1.size)⟩
          · have hge : ¬ a < s.size := fun q => hgo ⟨by omega, q⟩
            clear hgo
            go_wp2_with (first | (go_at_call 63; refine CP.out.mono ?_; rintro e w2 ⟨rfl, hb2⟩; have HB2 := hide hb2; clear hb2))
            go_ret2
            exact Or.inr ⟨hno.out, rfl, HC.out.1.trans (HB2.out.mono HC.out.1.size)⟩
      · have CP := hide (refPack_no u4 done wr HRE.out hS)
        have hno : Hid (¬ isPk (tb s)) := by
          intro q
          have := (HREF.out (rdAll (tb s))).2 ⟨q, rfl⟩
          rw [hrd.out] at this
          obtain ⟨e1, e2, _⟩ := this
          injection e1 with e1
          rw [← e1] at e2
          exact hS e2
        clear hS
        by_cases h0 : r = 0
        · subst h0
          clear hgo
          go_wp2_with (first | (go_at_call 63; refine CP.out.mono ?_; rintro e w2 ⟨rfl, hb2⟩; have HB2 := hide hb2; clear hb2))
          go_ret2
          exact Or.inr ⟨hno.out, rfl, HC.out.1.trans (HB2.out.mono HC.out.1.size)⟩
        · have hge : ¬ a < s.size := fun q => hgo ⟨by omega, q⟩
          clear hgo
          go_wp2_with (first | (go_at_call 63; refine CP.out.mono ?_; rintro e w2 ⟨rfl, hb2⟩; have HB2 := hide hb2; clear hb2))
          go_ret2
          exact Or.inr ⟨hno.out, rfl, HC.out.1.trans (HB2.out.mono HC.out.1.size)⟩
end Go.Proofs.YtkncboinfcnklaaGreatDoor
