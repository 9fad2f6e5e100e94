import Derived.Test.YtdcnfgllghiedaaGreatDoorR2
namespace Go.Proofs.YtdcnfgllghiedaaGreatDoor
open Go.RowKit Go.Deep Go.Proofs.YtdcnfgllghiedaaGreatDoor.Mth

theorem ofL_size (l : List UInt8) : (ofL l).size = l.length := by simp [ofL, ByteArray.size]

theorem add_letter (cur : List UInt8) (c : Int) (w : World) (h : cur.length ≤ 1000000000) : (Op.stringOp .add (ofL cur) (strOfNums [c])).run Tryz.prog w = .ok (.string (ofL (cur ++ [UInt8.ofNat c.toNat]))) w := by
  rw [run_string_add_sum (P := Tryz.prog) w _ _ (by rw [ofL_size, size_nums]; simp; omega)]
  congr 2

theorem cut_no {cur : List UInt8} {x : Int} {l : List Int} (h : ltr x = 0) : cut cur (x :: l) = (if cur.isEmpty then [] else [cur]) ++ cut [] l := by
  rw [cut, if_pos h]
  split <;> simp
theorem cut_yes {cur : List UInt8} {x : Int} {l : List Int} (h : ltr x ≠ 0) : cut cur (x :: l) = cut (cur ++ [UInt8.ofNat (ltr x).toNat]) l := by rw [cut, if_neg h]
theorem cut_end (cur : List UInt8) : cut cur [] = (if cur.isEmpty then [] else [cur]) ++ cut [] [] := by
  rw [cut, cut]
  simp

theorem ltr_bd (x : Int) : 0 ≤ ltr x ∧ ltr x < 256 := by unfold ltr; split <;> (try split) <;> omega

/-- What a word that ends leaves. -/
def wput (cur : List UInt8) (m : List ByteArray) : List ByteArray := if cur.isEmpty then m else putS (ofL cur) m
theorem wput_mem (cur : List UInt8) (m : List ByteArray) (rest all : List (List UInt8)) (h : ∀ x, (x ∈ m ∨ x ∈ ((if cur.isEmpty then [] else [cur]) ++ rest).map ofL) ↔ x ∈ all.map ofL) : ∀ x, (x ∈ wput cur m ∨ x ∈ rest.map ofL) ↔ x ∈ all.map ofL := by
  intro x
  rw [← h x]
  unfold wput
  by_cases c : cur.isEmpty = true
  · rw [if_pos c, if_pos c]; simp
  · rw [if_neg c, if_neg c, putS_mem, List.map_append, List.mem_append, List.map_singleton, List.mem_singleton]
    constructor
    · rintro ((q | q) | q)
      · exact Or.inr (Or.inl q)
      · exact Or.inl q
      · exact Or.inr (Or.inr q)
    · rintro (q | q | q)
      · exact Or.inl (Or.inr q)
      · exact Or.inl (Or.inl q)
      · exact Or.inr q
theorem wput_up {cur : List UInt8} {m : List ByteArray} (h : m.Pairwise ltS) : (wput cur m).Pairwise ltS := by
  unfold wput
  split
  · exact h
  · exact putS_up _ _ h
theorem wput_len (cur : List UInt8) (m : List ByteArray) : (wput cur m).length ≤ m.length + 1 := by
  unfold wput
  split
  · omega
  · exact putS_len _ _

theorem ne_empty {cur : List UInt8} (h : cur.isEmpty = false) : ((ofL cur).toList == ([] : List UInt8)) = false := by
  rw [Lib.toList_data, ofL_data]
  cases cur with
  | nil => simp at h
  | cons a l => rfl

set_option maxRecDepth 100000 in
set_option maxHeartbeats 4000000 in
theorem refWords_any (s : ByteArray) (w : World) (hs : s.size ≤ 1048576) :
    Calls Tryz.prog 109 #[.string s] w fun e w' => ∃ v', e = .returned v' ∧ Below w.heap.size w w' ∧ Rd w' v' (wd s) := by
  have HL := hide (tb_len s)
  have HBT := hide (tb_bts s)
  go_enter Tryz.func109, Tryz.ntmps109
  go_wp2_with fail
  go_loopw [3, 4, 5] (fun lv wv i wr => ∃ (k : Nat) (cur : List UInt8) (m : List ByteArray), k ≤ s.size + 1 ∧ i = .int .i64 k ∧ wv = .string (ofL cur) ∧ Below w.heap.size w wr ∧ Rd wr lv m ∧ m.length ≤ k ∧ cur.length ≤ k ∧ m.Pairwise ltS ∧ (∀ x, (x ∈ m ∨ x ∈ (cut cur ((tb s).drop k)).map ofL) ↔ x ∈ (cut [] (tb s)).map ofL) ∧ (k = s.size + 1 → cur = [])) (fun _ _ i _ => s.size + 1 - (intOf i).toNat)
  case atStart => exact ⟨0, [], [], Nat.zero_le _, rfl, rfl, Below.refl _ _, ⟨none, 0, rfl, Nat.le_refl _, by unfold maxLen; omega, fun _ => rfl, Or.inl rfl⟩, Nat.le_refl _, Nat.le_refl _, List.Pairwise.nil, fun x => by simp, fun h => by omega⟩
  case round =>
    obtain ⟨k, cur, m, hk, rfl, rfl, hb, hrd, hml, hcl, hup, hall, hend⟩ := hrel
    have HB := hide hb
    have HR := hide hrd
    have HU := hide hup
    have HA := hide hall
    have HE := hide hend
    obtain ⟨la, lc, rfl, hlc, hlm⟩ := rd_len hrd
    have hsz := hb.size
    clear hb hrd hup hall hend
    by_cases hlt : k < s.size
    · have hix := idx_at s k hlt wr
      have hx := bts_get HBT.out k
      have hdr := hide (drop_get (l := tb s) (k := k) (by rw [HL.out]; exact hlt) 0)
      generalize (tb s).getD k 0 = x at *
      obtain ⟨x1, x2⟩ := hx
      have CL := hide (fun w => letter_any x w x1 x2)
      have hlb := ltr_bd x
      have HLT : Hid (ltr x = ltr x) := rfl
      by_cases hl0 : ltr x = 0
      · have HALL := hide (fun z => wput_mem cur m (cut [] ((tb s).drop (k + 1))) (cut [] (tb s)) (by have := HA.out; rw [hdr.out, cut_no hl0] at this; exact this) z)
        rw [hl0] at CL
        clear hl0 hlb HLT
        cases hce : cur.isEmpty with
        | true =>
          have hcn : cur = [] := List.isEmpty_iff.1 hce
          subst hcn
          have hne : ((ofL []).toList == ([] : List UInt8)) = true := by rw [Lib.toList_data, ofL_data]; rfl
          clear hce
          go_wp2_with (first | (go_at_call 189; refine (CL.out _).mono ?_; rintro e w' ⟨rfl, hw⟩; rw [hw]; clear hw w'))
          go_roundw
          case rel => exact ⟨k + 1, [], m, by omega, by go_num, rfl, HB.out, HR.out, by omega, by simp, HU.out, HALL.out, fun _ => rfl⟩
          case measure => simp [intOf]; omega
        | false =>
          have hne := ne_empty hce
          have hwp : Hid (wput cur m = putS (ofL cur) m) := by show _ = _; unfold wput; rw [hce]; rfl
          have hwl := wput_len cur m
          have CP := hide (putText_any (ofL cur) HR.out (by omega))
          clear hce
          go_wp2_with (first | (go_at_call 189; refine (CL.out _).mono ?_; rintro e w' ⟨rfl, hw⟩; rw [hw]; clear hw w') | (go_at_call 166; refine CP.out.mono ?_; rintro e w2 ⟨v2, rfl, hb2, hr2⟩; have HB2 := hide hb2; have HR2 := hide hr2; clear hb2 hr2))
          go_roundw
          case rel => exact ⟨k + 1, [], wput cur m, by omega, by go_num, rfl, HB.out.trans (HB2.out.mono hsz), by rw [hwp.out]; exact HR2.out, by omega, by simp, wput_up HU.out, HALL.out, fun _ => rfl⟩
          case measure => simp [intOf]; omega
      · have HALL : Hid (∀ z, (z ∈ m ∨ z ∈ (cut (cur ++ [UInt8.ofNat (ltr x).toNat]) ((tb s).drop (k + 1))).map ofL) ↔ z ∈ (cut [] (tb s)).map ofL) := by
          have := HA.out
          rw [hdr.out, cut_yes hl0] at this
          exact this
        have hl0b : (ltr x == 0) = false := by simpa using hl0
        generalize ltr x = y at *
        have hcv := conv_one wr y
        have hadd := add_letter cur y (wr.alloc (.cells #[.int .u8 y] 5)) (by omega)
        have HB1 := hide (HB.out.trans ((below_alloc wr (.cells #[.int .u8 y] 5)).mono hsz))
        have HR1 := hide (HR.out.below (below_alloc wr (.cells #[.int .u8 y] 5)))
        clear HLT
        go_wp2_with (first | (go_at_call 189; refine (CL.out _).mono ?_; rintro e w' ⟨rfl, hw⟩; rw [hw]; clear hw w'))
        go_roundw
        case rel => exact ⟨k + 1, cur ++ [UInt8.ofNat y.toNat], m, by omega, by go_num, rfl, HB1.out, HR1.out, by omega, by rw [List.length_append, List.length_singleton]; omega, HU.out, HALL.out, fun h => by omega⟩
        case measure => simp [intOf]; omega
    · by_cases hke : k = s.size
      · subst hke
        have hdr0 : (tb s).drop s.size = [] := List.drop_eq_nil_of_le (by rw [HL.out]; exact Nat.le_refl _)
        have hdr1 : (tb s).drop (s.size + 1) = [] := List.drop_eq_nil_of_le (by rw [HL.out]; omega)
        have HALL := hide (fun z => wput_mem cur m (cut [] ((tb s).drop (s.size + 1))) (cut [] (tb s)) (by have := HA.out; rw [hdr0, cut_end] at this; rw [hdr1]; exact this) z)
        clear hdr0 hdr1
        cases hce : cur.isEmpty with
        | true =>
          have hcn : cur = [] := List.isEmpty_iff.1 hce
          subst hcn
          have hne : ((ofL []).toList == ([] : List UInt8)) = true := by rw [Lib.toList_data, ofL_data]; rfl
          clear hce
          go_wp2
          go_roundw
          case rel => exact ⟨s.size + 1, [], m, by omega, by go_num, rfl, HB.out, HR.out, by omega, by simp, HU.out, HALL.out, fun _ => rfl⟩
          case measure => simp [intOf]
        | false =>
          have hne := ne_empty hce
          have hwp : Hid (wput cur m = putS (ofL cur) m) := by show _ = _; unfold wput; rw [hce]; rfl
          have hwl := wput_len cur m
          have CP := hide (putText_any (ofL cur) HR.out (by omega))
          clear hce
          go_wp2_with (first | (go_at_call 166; refine CP.out.mono ?_; rintro e w2 ⟨v2, rfl, hb2, hr2⟩; have HB2 := hide hb2; have HR2 := hide hr2; clear hb2 hr2))
          go_roundw
          case rel => exact ⟨s.size + 1, [], wput cur m, by omega, by go_num, rfl, HB.out.trans (HB2.out.mono hsz), by rw [hwp.out]; exact HR2.out, by omega, by simp, wput_up HU.out, HALL.out, fun _ => rfl⟩
          case measure => simp [intOf]
      · have hke2 : k = s.size + 1 := by omega
        have hc0 := HE.out hke2
        subst hke2 hc0
        have hfin : Hid (m = wd s) := by
          refine wd_of HU.out (fun x => ?_)
          rw [← HA.out x, List.drop_eq_nil_of_le (by rw [HL.out]; omega)]
          simp [cut]
        clear hlt hke
        go_wp2
        go_ret
        exact ⟨_, rfl, HB.out, by rw [← hfin.out]; exact HR.out⟩
end Go.Proofs.YtdcnfgllghiedaaGreatDoor
