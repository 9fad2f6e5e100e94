import Derived.Test.YtkncboinfcnklaaGreatDoorJe
import Derived.Test.YtkncboinfcnklaaGreatDoorIa
import Derived.Test.YtkncboinfcnklaaGreatDoorL16
namespace Go.Proofs.YtkncboinfcnklaaGreatDoor.WI
open Go.RowKit Go.Deep Go.Proofs.YtkncboinfcnklaaGreatDoor.Mth

theorem btw_take {l : List Int} {k : Nat} (h : k < l.length) (lo hi z : Int) : btw (fun a b : Int => a < b) lo hi (l.take (k + 1)) = btw (fun a b : Int => a < b) lo hi (l.take k) ++ (if ¬ (fun a b : Int => a < b) (l.getD k z) lo ∧ ¬ (fun a b : Int => a < b) hi (l.getD k z) then [l.getD k z] else []) := by
  rw [take_one h z]
  have e : btw (fun a b : Int => a < b) lo hi ([] : List Int) = [] := rfl
  have q := btw_node (lt := (fun a b : Int => a < b)) lo hi (l.getD k z) (l.take k) []
  rw [e, List.append_nil] at q
  exact q
theorem btw_len {l : List Int} {lo hi : Int} : (btw (fun a b : Int => a < b) lo hi l).length ≤ l.length := List.length_filter_le _ _

set_option maxRecDepth 100000 in
set_option maxHeartbeats 8000000 in
theorem between_step (w : World) (B wb : Nat) (g0 g1 g2 g3 q5 q7 k8 k9 k10 k11 k12 k13 k14 iv rv kv : Value) (ns M N : Nat) (xs : List Value) (C : Array Value) (sb : Nat → Nat) (Tr : Nat → BT Int) (rr : Nat → Value) (A Bv Cv : Int) (S T : ByteArray) (hC : C = #[g0, g1, g2, g3, iv, q5, rv, q7, k8, k9, k10, k11, k12, k13, k14]) (hblk0 : w.heap[wb]? = some (Obj.cells C 91 (0, 0))) (hck : C[10]? = some kv) (hge : B ≤ wb) (hI : SSet w B iv rv ns M sb Tr rr) (hrow : w.ownsRow B 163 5 kv N xs) (hN : N ≤ 4000000) (_hB : B ≤ w.heap.size) (hns : 0 < ns) (hn2 : ns ≤ 4194304) (hM : M ≤ 4000000) (hA0 : -9223372036854775808 ≤ A) (hA1 : A < 9223372036854775808) :
    Calls Tryz.prog 107 #[.pointer (some ⟨wb, 0, none⟩), .agg #[.int .i64 6, .int .i64 A, .int .i64 Bv, .int .i64 Cv, .string S, .string T]] w fun e w' => e = .returned (.bool true) ∧ ∃ kv' Q n, n + 3 ≤ 4194304 ∧ Aft w w' B wb 10 163 3 1 (fI N) kv kv' N xs C Q n := by
  have hblk := hblk0
  rw [hC] at hblk
  have HROW := hide hrow
  have HBLKC := hide hblk0
  have HCK := hide hck
  have HCS : Hid (C.size = 15) := by show _ = _; rw [hC]; rfl
  clear hrow hblk0 hck hC
  have hwl : wb < w.heap.size := (Array.getElem?_eq_some_iff.1 hblk).1
  have HO := hide (opCells w 6 A Bv Cv S T)
  have HB1 := hide (below_alloc w (Obj.cells #[.int .i64 6, .int .i64 A, .int .i64 Bv, .int .i64 Cv, .string S, .string T] 94))
  have hlt1 : w.heap.size < (w.alloc (Obj.cells #[.int .i64 6, .int .i64 A, .int .i64 Bv, .int .i64 Cv, .string S, .string T] 94)).heap.size := by simp
  obtain ⟨ia, ic, rfl, hic, hicm⟩ := own_slice hI.row
  obtain ⟨ra, rc, rfl, hrc, hrcm⟩ := own_slice hI.ref
  unfold maxLen at hicm hrcm
  obtain ⟨r, hr0, hr1, hpk⟩ := pick_fix A (ns : Int) hA0 hA1 (by omega) (by omega)
  obtain ⟨i, rfl⟩ := Int.eq_ofNat_of_zero_le hr0
  have hi : i < ns := by omega
  have HII := hide hI
  have HBLK := hide hblk
  have HPK := hide hpk
  have cw1 := (cell_of (j := 4) (u := .slice ia ns ic) ((HB1.out.block wb hwl).trans hblk) rfl).1
  have cA := (cell_of (j := 1) (u := .int .i64 A) HO.out rfl).1
  clear hI hblk hpk
  go_enter Tryz.func107, Tryz.ntmps107
  go_wp2_with fail
  generalize w.alloc (Obj.cells #[.int .i64 6, .int .i64 A, .int .i64 Bv, .int .i64 Cv, .string S, .string T] 94) = w1 at *
  have d1 := cell_regrown cw1
  have d2 := cell_regrown cA
  have CP := hide (fun d os => Calls.regrown_of (w := w1) (d := d) (os := os) ((HPK.out (Sort.grow (redrawn w1 d) os)).mono fun e w' q => ⟨q.1, by rw [q.2]; exact Below.refl _ _⟩))
  clear cw1 cA
  refine wp_region_quiet_below (by kernel_rfl) (by kernel_rfl) ?_
  repeat (go_big_quiet_step (first | (go_at_call 15; exact CP.out _ _)))
  refine wpQuiet_nil ?_
  intro _ hw'
  obtain ⟨⟨dq, osq⟩, hw''⟩ := hw'
  subst hw''
  have HBQ := hide (below_regrown w1 dq osq)
  clear d1 d2 CP
  generalize Sort.grow (redrawn w1 dq) osq = w2 at *
  have hs1 := HB1.out.size
  have hs2 := HBQ.out.size
  have HB02 : Hid (Below w.heap.size w w2) := HB1.out.trans (HBQ.out.mono (by omega))
  have HI2 := hide (HII.out.below HB02.out)
  have HBL2 := hide ((HB02.out.block wb hwl).trans HBLK.out)
  have HO2 := hide ((HBQ.out.block w.heap.size hlt1).trans HO.out)
  obtain ⟨c4, _⟩ := cell_of (j := 4) (u := .slice ia ns ic) HBL2.out rfl
  obtain ⟨c6, _⟩ := cell_of (j := 6) (u := .slice ra ns rc) HBL2.out rfl
  obtain ⟨o0, _⟩ := cell_of (j := 0) (u := .int .i64 6) HO2.out rfl
  obtain ⟨o2, _⟩ := cell_of (j := 2) (u := .int .i64 Bv) HO2.out rfl
  obtain ⟨o3, _⟩ := cell_of (j := 3) (u := .int .i64 Cv) HO2.out rfl
  obtain ⟨o4, _⟩ := cell_of (j := 4) (u := .string S) HO2.out rfl
  obtain ⟨o5, _⟩ := cell_of (j := 5) (u := .string T) HO2.out rfl
  obtain ⟨gi, rfl⟩ := own_first HI2.out.row (by omega)
  obtain ⟨gr, rfl⟩ := own_first HI2.out.ref (by omega)
  have p1 := row_cell HI2.out.row hi
  have p2 := row_cell HI2.out.ref hi
  have HSA := hide (HI2.out.one i hi)
  have HOW := hide (HI2.out.own i hi)
  have hlen := HI2.out.len i hi
  obtain ⟨la, lc, hrv, _, hlcm⟩ := own_slice HOW.out
  rw [hrv] at p2 HOW
  have HRD := hide (rd_own HOW.out)
  generalize hsb : sb i = s at *
  generalize hTT : Tr i = TT at *
  have HSB := hide hsb
  have HTT := hide hTT
  have HRV := hide hrv
  clear hsb hTT hrv
  obtain ⟨i0, hi0, hz0, hz1, hz2⟩ := info_parts Tryz.info3
  have HTK := hide (fun k h => btw_take (l := lst TT) (k := k) h Bv Cv 0)
  have HBL9 : Hid (∀ k, (btw (fun a b : Int => a < b) Bv Cv ((lst TT).take k)).length ≤ k) := fun k => Nat.le_trans btw_len (by rw [List.length_take]; omega)
  have HEQ : Hid (btw (fun a b : Int => a < b) Bv Cv ((lst TT).take (lst TT).length) = btw (fun a b : Int => a < b) Bv Cv (lst TT)) := by show _ = _; rw [List.take_length]
  have HBLE : Hid ((btw (fun a b : Int => a < b) Bv Cv (lst TT)).length ≤ (lst TT).length) := btw_len
  go_wp2_with fail
  clear c4 c6 p1 p2 o0 o2 o3 o4 o5
  generalize hn : (lst TT).length = n at *
  have HN := hide hn
  clear hn
  go_loopw [8, 9] (fun wv k wr => ∃ j : Nat, j ≤ n ∧ k = .int .i64 j ∧ Cur w2 wr wv (btw (fun a b : Int => a < b) Bv Cv ((lst TT).take j))) (fun _ k _ => n - (intOf k).toNat)
  case atStart => exact ⟨0, Nat.zero_le _, rfl, ⟨Below.refl _ _, by simpa [btw] using World.ownsRow_nil _ _ _ _⟩⟩
  case round =>
    obtain ⟨k, hk, rfl, hcur⟩ := hrel
    have HC := hide hcur
    have hsr := hcur.1.size
    clear hcur
    have HOR := hide ((HC.out.1.block w.heap.size (by omega)).trans HO2.out)
    by_cases hlt : k < n
    · obtain ⟨b, o, hla, hblt, cell⟩ := rd_at (HRD.out.below HC.out.1) k (by rw [HN.out]; exact hlt)
      subst hla
      have HT0 := hide (HTK.out k hlt)
      have hbl := HBL9.out k
      obtain ⟨d2', _⟩ := cell_of (j := 2) (u := .int .i64 Bv) HOR.out rfl
      obtain ⟨d3', _⟩ := cell_of (j := 3) (u := .int .i64 Cv) HOR.out rfl
      have r0 := cell_regrown cell
      have d2 := cell_regrown d2'
      have d3 := cell_regrown d3'
      generalize (lst TT).getD k 0 = x at *
      clear d2' d3'
      by_cases qa : x < Bv
      · have z1 : decide (Bv ≤ x) = false := by simp; omega
        have z2 : ¬ Bv ≤ x := by omega
        have HT1 : Hid (btw (fun a b : Int => a < b) Bv Cv ((lst TT).take (k + 1)) = btw (fun a b : Int => a < b) Bv Cv ((lst TT).take k)) := by
          show _ = _
          rw [HT0.out, if_neg (by first | exact fun c => c.1 qa | omega), List.append_nil]
        generalize btw (fun a b : Int => a < b) Bv Cv ((lst TT).take k) = m at *
        have HQ := hide qa
        clear qa
        go_wp2
        refine wp_region_quiet_below (by kernel_rfl) (by kernel_rfl) ?_
        repeat (go_big_quiet_step (fail))
        refine wpQuiet_nil ?_
        intro _ hw'
        obtain ⟨⟨dq, osq⟩, hw''⟩ := hw'
        subst hw''
        have HBQ' := hide (below_regrown wr dq osq)
        have HC2 := hide (cur_on HC.out HBQ'.out)
        have hs3 := HBQ'.out.size
        have cell2 := (HBQ'.out.cell (p := ⟨b, o + k, none⟩) hblt).trans cell
        clear r0 d2 d3 HBQ' cell
        generalize Sort.grow (redrawn wr dq) osq = w3 at *
        go_wp2
        go_roundw
        case rel => exact ⟨k + 1, by omega, by go_num, by rw [HT1.out]; exact HC2.out⟩
        case measure => simp [intOf]; omega
      · by_cases qb : Cv < x
        · have z1 : decide (Bv ≤ x) = true := by simp; omega
          have z2 : Bv ≤ x := by omega
          have z3 : decide (x ≤ Cv) = false := by simp; omega
          have z4 : ¬ x ≤ Cv := by omega
          have HT1 : Hid (btw (fun a b : Int => a < b) Bv Cv ((lst TT).take (k + 1)) = btw (fun a b : Int => a < b) Bv Cv ((lst TT).take k)) := by
            show _ = _
            rw [HT0.out, if_neg (by first | exact fun c => c.2 qb | omega), List.append_nil]
          generalize btw (fun a b : Int => a < b) Bv Cv ((lst TT).take k) = m at *
          have HQ := hide (And.intro qa qb)
          clear qa qb
          go_wp2
          refine wp_region_quiet_below (by kernel_rfl) (by kernel_rfl) ?_
          repeat (go_big_quiet_step (fail))
          refine wpQuiet_nil ?_
          intro _ hw'
          obtain ⟨⟨dq, osq⟩, hw''⟩ := hw'
          subst hw''
          have HBQ' := hide (below_regrown wr dq osq)
          have HC2 := hide (cur_on HC.out HBQ'.out)
          have hs3 := HBQ'.out.size
          have cell2 := (HBQ'.out.cell (p := ⟨b, o + k, none⟩) hblt).trans cell
          clear r0 d2 d3 HBQ' cell
          generalize Sort.grow (redrawn wr dq) osq = w3 at *
          go_wp2
          go_roundw
          case rel => exact ⟨k + 1, by omega, by go_num, by rw [HT1.out]; exact HC2.out⟩
          case measure => simp [intOf]; omega
        · have z1 : decide (Bv ≤ x) = true := by simp; omega
          have z2 : Bv ≤ x := by omega
          have z3 : decide (x ≤ Cv) = true := by simp; omega
          have z4 : x ≤ Cv := by omega
          have HT1 : Hid (btw (fun a b : Int => a < b) Bv Cv ((lst TT).take (k + 1)) = btw (fun a b : Int => a < b) Bv Cv ((lst TT).take k) ++ [x]) := by
            show _ = _
            rw [HT0.out, if_pos (by first | exact ⟨qa, qb⟩ | omega)]
          generalize btw (fun a b : Int => a < b) Bv Cv ((lst TT).take k) = m at *
          have HQ := hide (And.intro qa qb)
          clear qa qb
          go_wp2
          refine wp_region_quiet_below (by kernel_rfl) (by kernel_rfl) ?_
          repeat (go_big_quiet_step (fail))
          refine wpQuiet_nil ?_
          intro _ hw'
          obtain ⟨⟨dq, osq⟩, hw''⟩ := hw'
          subst hw''
          have HBQ' := hide (below_regrown wr dq osq)
          have HC2 := hide (cur_on HC.out HBQ'.out)
          have hs3 := HBQ'.out.size
          have cell2 := (HBQ'.out.cell (p := ⟨b, o + k, none⟩) hblt).trans cell
          clear r0 d2 d3 HBQ' cell
          generalize Sort.grow (redrawn wr dq) osq = w3 at *
          go_wp2_with (first | (at_builtin; refine wpList_append_own _ rfl (.tmp 69) (.tmp 74) 149 rfl w2.heap.size 3 i0 (.int .i64 0) 1 8 Tryz.underlying149 hi0 hz0 hz1 hz2 rfl (by decide) _ _ _ rfl (HC2.out.2.alloc _) ⟨w3.heap.size, 0, none⟩ 1 1 [.int .i64 x] rfl rfl (cell_one_new _ _ _) (by intro u hu; simp at hu; subst hu; rfl) (by unfold maxLen; omega) (by omega) (by simp; omega) ?_; intro v4 w4 hown4 hgrow4 _; have HC4 := hide (cur_append HC2.out hown4 hgrow4); clear hown4 hgrow4))
          go_roundw
          case rel => exact ⟨k + 1, by omega, by go_num, by rw [HT1.out]; exact HC4.out⟩
          case measure => simp [intOf]; omega
    · have hke : k = n := by omega
      subst hke
      have HWT : Hid (Cur w2 wr u8 (btw (fun a b : Int => a < b) Bv Cv (lst TT))) := by
        have := HC.out
        rwa [HEQ.out] at this
      have HSB2 := hide ((HI2.out.below HC.out.1).one i hi)
      rw [HSB.out, HTT.out] at HSB2
      have CB := hide (between_any s TT Bv Cv wr HSB2.out (by rw [HN.out]; omega))
      obtain ⟨d2, _⟩ := cell_of (j := 2) (u := .int .i64 Bv) HOR.out rfl
      obtain ⟨d3, _⟩ := cell_of (j := 3) (u := .int .i64 Cv) HOR.out rfl
      obtain ⟨wa, wc, hu8, _, _⟩ := own_slice HWT.out.2
      subst hu8
      have hbe := HBLE.out
      generalize hL : btw (fun a b : Int => a < b) Bv Cv (lst TT) = L at *
      clear hL
      go_wp2_with fail
      refine CB.out.mono ?_
      rintro e w4 ⟨bv, rfl, hc4⟩
      obtain ⟨ba, bc, hbv, _, _⟩ := own_slice hc4.2
      subst hbv
      have HC4 := hide hc4
      have hs4 := hc4.1.size
      have HWT4 := hide (cur_on HWT.out hc4.1)
      clear hc4 CB d2 d3
      go_wp2_with fail
      refine (sameInts_any (cur_rd HC4.out) (cur_rd HWT4.out)).mono ?_
      rintro e w5 ⟨rfl, hb5⟩
      have HC5 := hide (cur_on HC4.out hb5)
      have hs5 := hb5.size
      have HB05 : Hid (Below w.heap.size w w5) := by
        show Below _ _ _
        exact (HB02.out.trans (HC.out.1.mono (by omega))).trans (HC5.out.1.mono (by omega))
      clear hb5
      have HBW5 := hide ((HB05.out.block wb hwl).trans HBLKC.out)
      have HRW5 := hide (own_same HROW.out (fun g hg => HB05.out.block g (own_block HROW.out hg).2.1))
      have CK := hide (keepInts_any w5 wr.heap.size wb B _ kv _ N _ xs C HC5.out.2 (by omega) (by omega) HBW5.out HCS.out HCK.out HRW5.out (fun g hg => by have := (own_block HROW.out hg).2.1; omega) (by omega) (by omega) (by omega))
      go_wp2_with fail
      refine CK.out.mono ?_
      rintro e w6 ⟨rfl, tv', va', vb', vc', hK, _⟩
      have HA6 := hide (aft_of HB05.out (by omega) hK)
      clear hK CK
      go_wp2
      go_ret
      exact ⟨rfl, _, _, _, by omega, HA6.out⟩
end Go.Proofs.YtkncboinfcnklaaGreatDoor.WI

namespace Go.Proofs.YtkncboinfcnklaaGreatDoor.Str
open Go.RowKit Go.Deep Go.Proofs.YtkncboinfcnklaaGreatDoor.Mth

theorem btw_take {l : List ByteArray} {k : Nat} (h : k < l.length) (lo hi z : ByteArray) : btw ltS lo hi (l.take (k + 1)) = btw ltS lo hi (l.take k) ++ (if ¬ ltS (l.getD k z) lo ∧ ¬ ltS hi (l.getD k z) then [l.getD k z] else []) := by
  rw [take_one h z]
  have e : btw ltS lo hi ([] : List ByteArray) = [] := rfl
  have q := btw_node (lt := ltS) lo hi (l.getD k z) (l.take k) []
  rw [e, List.append_nil] at q
  exact q
theorem btw_len {l : List ByteArray} {lo hi : ByteArray} : (btw ltS lo hi l).length ≤ l.length := List.length_filter_le _ _

set_option maxRecDepth 100000 in
set_option maxHeartbeats 8000000 in
theorem between_step (w : World) (B wb : Nat) (g0 g1 g2 g3 q4 q6 k8 k9 k10 k11 k12 k13 k14 iv rv kv : Value) (ns M N : Nat) (xs : List Value) (C : Array Value) (sb : Nat → Nat) (Tr : Nat → BT ByteArray) (rr : Nat → Value) (A Bv Cv : Int) (S T : ByteArray) (hC : C = #[g0, g1, g2, g3, q4, iv, q6, rv, k8, k9, k10, k11, k12, k13, k14]) (hblk0 : w.heap[wb]? = some (Obj.cells C 91 (0, 0))) (hck : C[11]? = some kv) (hge : B ≤ wb) (hI : SSet w B iv rv ns M sb Tr rr) (hrow : w.ownsRow B 166 5 kv N xs) (hN : N ≤ 4000000) (_hB : B ≤ w.heap.size) (hns : 0 < ns) (hn2 : ns ≤ 4194304) (hM : M ≤ 4000000) (hA0 : -9223372036854775808 ≤ A) (hA1 : A < 9223372036854775808) :
    Calls Tryz.prog 108 #[.pointer (some ⟨wb, 0, none⟩), .agg #[.int .i64 6, .int .i64 A, .int .i64 Bv, .int .i64 Cv, .string S, .string T]] w fun e w' => e = .returned (.bool true) ∧ ∃ kv' Q n, n + 3 ≤ 4194304 ∧ Aft w w' B wb 11 166 9 1 (fT N) kv kv' N xs C Q n := by
  have hblk := hblk0
  rw [hC] at hblk
  have HROW := hide hrow
  have HBLKC := hide hblk0
  have HCK := hide hck
  have HCS : Hid (C.size = 15) := by show _ = _; rw [hC]; rfl
  clear hrow hblk0 hck hC
  have hwl : wb < w.heap.size := (Array.getElem?_eq_some_iff.1 hblk).1
  have HO := hide (opCells w 6 A Bv Cv S T)
  have HB1 := hide (below_alloc w (Obj.cells #[.int .i64 6, .int .i64 A, .int .i64 Bv, .int .i64 Cv, .string S, .string T] 94))
  have hlt1 : w.heap.size < (w.alloc (Obj.cells #[.int .i64 6, .int .i64 A, .int .i64 Bv, .int .i64 Cv, .string S, .string T] 94)).heap.size := by simp
  obtain ⟨ia, ic, rfl, hic, hicm⟩ := own_slice hI.row
  obtain ⟨ra, rc, rfl, hrc, hrcm⟩ := own_slice hI.ref
  unfold maxLen at hicm hrcm
  obtain ⟨r, hr0, hr1, hpk⟩ := pick_fix A (ns : Int) hA0 hA1 (by omega) (by omega)
  obtain ⟨i, rfl⟩ := Int.eq_ofNat_of_zero_le hr0
  have hi : i < ns := by omega
  have HII := hide hI
  have HBLK := hide hblk
  have HPK := hide hpk
  have cw1 := (cell_of (j := 5) (u := .slice ia ns ic) ((HB1.out.block wb hwl).trans hblk) rfl).1
  have cA := (cell_of (j := 1) (u := .int .i64 A) HO.out rfl).1
  clear hI hblk hpk
  go_enter Tryz.func108, Tryz.ntmps108
  go_wp2_with fail
  generalize w.alloc (Obj.cells #[.int .i64 6, .int .i64 A, .int .i64 Bv, .int .i64 Cv, .string S, .string T] 94) = w1 at *
  have d1 := cell_regrown cw1
  have d2 := cell_regrown cA
  have CP := hide (fun d os => Calls.regrown_of (w := w1) (d := d) (os := os) ((HPK.out (Sort.grow (redrawn w1 d) os)).mono fun e w' q => ⟨q.1, by rw [q.2]; exact Below.refl _ _⟩))
  clear cw1 cA
  refine wp_region_quiet_below (by kernel_rfl) (by kernel_rfl) ?_
  repeat (go_big_quiet_step (first | (go_at_call 15; exact CP.out _ _)))
  refine wpQuiet_nil ?_
  intro _ hw'
  obtain ⟨⟨dq, osq⟩, hw''⟩ := hw'
  subst hw''
  have HBQ := hide (below_regrown w1 dq osq)
  clear d1 d2 CP
  generalize Sort.grow (redrawn w1 dq) osq = w2 at *
  have hs1 := HB1.out.size
  have hs2 := HBQ.out.size
  have HB02 : Hid (Below w.heap.size w w2) := HB1.out.trans (HBQ.out.mono (by omega))
  have HI2 := hide (HII.out.below HB02.out)
  have HBL2 := hide ((HB02.out.block wb hwl).trans HBLK.out)
  have HO2 := hide ((HBQ.out.block w.heap.size hlt1).trans HO.out)
  obtain ⟨c4, _⟩ := cell_of (j := 5) (u := .slice ia ns ic) HBL2.out rfl
  obtain ⟨c6, _⟩ := cell_of (j := 7) (u := .slice ra ns rc) HBL2.out rfl
  obtain ⟨o0, _⟩ := cell_of (j := 0) (u := .int .i64 6) HO2.out rfl
  obtain ⟨o2, _⟩ := cell_of (j := 2) (u := .int .i64 Bv) HO2.out rfl
  obtain ⟨o3, _⟩ := cell_of (j := 3) (u := .int .i64 Cv) HO2.out rfl
  obtain ⟨o4, _⟩ := cell_of (j := 4) (u := .string S) HO2.out rfl
  obtain ⟨o5, _⟩ := cell_of (j := 5) (u := .string T) HO2.out rfl
  obtain ⟨gi, rfl⟩ := own_first HI2.out.row (by omega)
  obtain ⟨gr, rfl⟩ := own_first HI2.out.ref (by omega)
  have p1 := row_cell HI2.out.row hi
  have p2 := row_cell HI2.out.ref hi
  have HSA := hide (HI2.out.one i hi)
  have HOW := hide (HI2.out.own i hi)
  have hlen := HI2.out.len i hi
  obtain ⟨la, lc, hrv, _, hlcm⟩ := own_slice HOW.out
  rw [hrv] at p2 HOW
  have HRD := hide (rd_own HOW.out)
  generalize hsb : sb i = s at *
  generalize hTT : Tr i = TT at *
  have HSB := hide hsb
  have HTT := hide hTT
  have HRV := hide hrv
  clear hsb hTT hrv
  obtain ⟨i0, hi0, hz0, hz1, hz2⟩ := info_parts Tryz.info9
  have HTK := hide (fun k h => btw_take (l := lst TT) (k := k) h S T ByteArray.empty)
  have HBL9 : Hid (∀ k, (btw ltS S T ((lst TT).take k)).length ≤ k) := fun k => Nat.le_trans btw_len (by rw [List.length_take]; omega)
  have HEQ : Hid (btw ltS S T ((lst TT).take (lst TT).length) = btw ltS S T (lst TT)) := by show _ = _; rw [List.take_length]
  have HBLE : Hid ((btw ltS S T (lst TT)).length ≤ (lst TT).length) := btw_len
  go_wp2_with fail
  clear c4 c6 p1 p2 o0 o2 o3 o4 o5
  generalize hn : (lst TT).length = n at *
  have HN := hide hn
  clear hn
  go_loopw [8, 9] (fun wv k wr => ∃ j : Nat, j ≤ n ∧ k = .int .i64 j ∧ Cur w2 wr wv (btw ltS S T ((lst TT).take j))) (fun _ k _ => n - (intOf k).toNat)
  case atStart => exact ⟨0, Nat.zero_le _, rfl, ⟨Below.refl _ _, by simpa [btw] using World.ownsRow_nil _ _ _ _⟩⟩
  case round =>
    obtain ⟨k, hk, rfl, hcur⟩ := hrel
    have HC := hide hcur
    have hsr := hcur.1.size
    clear hcur
    have HOR := hide ((HC.out.1.block w.heap.size (by omega)).trans HO2.out)
    by_cases hlt : k < n
    · obtain ⟨b, o, hla, hblt, cell⟩ := rd_at (HRD.out.below HC.out.1) k (by rw [HN.out]; exact hlt)
      subst hla
      have HT0 := hide (HTK.out k hlt)
      have hbl := HBL9.out k
      obtain ⟨d2', _⟩ := cell_of (j := 4) (u := .string S) HOR.out rfl
      obtain ⟨d3', _⟩ := cell_of (j := 5) (u := .string T) HOR.out rfl
      have r0 := cell_regrown cell
      have d2 := cell_regrown d2'
      have d3 := cell_regrown d3'
      generalize (lst TT).getD k ByteArray.empty = x at *
      clear d2' d3'
      by_cases qa : ltS x S
      · have z1 := ltS_bool qa
        have HT1 : Hid (btw ltS S T ((lst TT).take (k + 1)) = btw ltS S T ((lst TT).take k)) := by
          show _ = _
          rw [HT0.out, if_neg (by first | exact fun c => c.1 qa | omega), List.append_nil]
        generalize btw ltS S T ((lst TT).take k) = m at *
        have HQ := hide qa
        clear qa
        go_wp2
        refine wp_region_quiet_below (by kernel_rfl) (by kernel_rfl) ?_
        repeat (go_big_quiet_step (fail))
        refine wpQuiet_nil ?_
        intro _ hw'
        obtain ⟨⟨dq, osq⟩, hw''⟩ := hw'
        subst hw''
        have HBQ' := hide (below_regrown wr dq osq)
        have HC2 := hide (cur_on HC.out HBQ'.out)
        have hs3 := HBQ'.out.size
        have cell2 := (HBQ'.out.cell (p := ⟨b, o + k, none⟩) hblt).trans cell
        clear r0 d2 d3 HBQ' cell
        generalize Sort.grow (redrawn wr dq) osq = w3 at *
        go_wp2
        go_roundw
        case rel => exact ⟨k + 1, by omega, by go_num, by rw [HT1.out]; exact HC2.out⟩
        case measure => simp [intOf]; omega
      · by_cases qb : ltS T x
        · have z1 := ltS_no qa
          have z2 := ltS_bool qb
          have z3 := ltS_no (x := x) (y := T) (fun q => sordS.irr _ (sordS.tr _ _ _ qb q))
          have z4 := eqS_false (x := T) (y := x) (fun q => sordS.irr _ (q ▸ qb))
          have HT1 : Hid (btw ltS S T ((lst TT).take (k + 1)) = btw ltS S T ((lst TT).take k)) := by
            show _ = _
            rw [HT0.out, if_neg (by first | exact fun c => c.2 qb | omega), List.append_nil]
          generalize btw ltS S T ((lst TT).take k) = m at *
          have HQ := hide (And.intro qa qb)
          clear qa qb
          go_wp2
          refine wp_region_quiet_below (by kernel_rfl) (by kernel_rfl) ?_
          repeat (go_big_quiet_step (fail))
          refine wpQuiet_nil ?_
          intro _ hw'
          obtain ⟨⟨dq, osq⟩, hw''⟩ := hw'
          subst hw''
          have HBQ' := hide (below_regrown wr dq osq)
          have HC2 := hide (cur_on HC.out HBQ'.out)
          have hs3 := HBQ'.out.size
          have cell2 := (HBQ'.out.cell (p := ⟨b, o + k, none⟩) hblt).trans cell
          clear r0 d2 d3 HBQ' cell
          generalize Sort.grow (redrawn wr dq) osq = w3 at *
          go_wp2
          go_roundw
          case rel => exact ⟨k + 1, by omega, by go_num, by rw [HT1.out]; exact HC2.out⟩
          case measure => simp [intOf]; omega
        · have z1 := ltS_no qa
          have z2 := ltS_no qb
          have z3 : (Op.bytesLess x.toList T.toList || x.toList == T.toList) = true := by
            rcases sordS.tri x T with q | q | q
            · rw [ltS_bool q]; rfl
            · subst q; simp
            · exact absurd q qb
          have HT1 : Hid (btw ltS S T ((lst TT).take (k + 1)) = btw ltS S T ((lst TT).take k) ++ [x]) := by
            show _ = _
            rw [HT0.out, if_pos (by first | exact ⟨qa, qb⟩ | omega)]
          generalize btw ltS S T ((lst TT).take k) = m at *
          have HQ := hide (And.intro qa qb)
          clear qa qb
          go_wp2
          refine wp_region_quiet_below (by kernel_rfl) (by kernel_rfl) ?_
          repeat (go_big_quiet_step (fail))
          refine wpQuiet_nil ?_
          intro _ hw'
          obtain ⟨⟨dq, osq⟩, hw''⟩ := hw'
          subst hw''
          have HBQ' := hide (below_regrown wr dq osq)
          have HC2 := hide (cur_on HC.out HBQ'.out)
          have hs3 := HBQ'.out.size
          have cell2 := (HBQ'.out.cell (p := ⟨b, o + k, none⟩) hblt).trans cell
          clear r0 d2 d3 HBQ' cell
          generalize Sort.grow (redrawn wr dq) osq = w3 at *
          go_wp2_with (first | (at_builtin; refine wpList_append_own _ rfl (.tmp 69) (.tmp 74) 58 rfl w2.heap.size 9 i0 (.string ByteArray.empty) 1 16 Tryz.underlying58 hi0 hz0 hz1 hz2 rfl (by decide) _ _ _ rfl (HC2.out.2.alloc _) ⟨w3.heap.size, 0, none⟩ 1 1 [.string x] rfl rfl (cell_one_new _ _ _) (by intro u hu; simp at hu; subst hu; rfl) (by unfold maxLen; omega) (by omega) (by simp; omega) ?_; intro v4 w4 hown4 hgrow4 _; have HC4 := hide (cur_append HC2.out hown4 hgrow4); clear hown4 hgrow4))
          go_roundw
          case rel => exact ⟨k + 1, by omega, by go_num, by rw [HT1.out]; exact HC4.out⟩
          case measure => simp [intOf]; omega
    · have hke : k = n := by omega
      subst hke
      have HWT : Hid (Cur w2 wr u8 (btw ltS S T (lst TT))) := by
        have := HC.out
        rwa [HEQ.out] at this
      have HSB2 := hide ((HI2.out.below HC.out.1).one i hi)
      rw [HSB.out, HTT.out] at HSB2
      have CB := hide (between_any s TT S T wr HSB2.out (by rw [HN.out]; omega))
      obtain ⟨d2, _⟩ := cell_of (j := 4) (u := .string S) HOR.out rfl
      obtain ⟨d3, _⟩ := cell_of (j := 5) (u := .string T) HOR.out rfl
      obtain ⟨wa, wc, hu8, _, _⟩ := own_slice HWT.out.2
      subst hu8
      have hbe := HBLE.out
      generalize hL : btw ltS S T (lst TT) = L at *
      clear hL
      go_wp2_with fail
      refine CB.out.mono ?_
      rintro e w4 ⟨bv, rfl, hc4⟩
      obtain ⟨ba, bc, hbv, _, _⟩ := own_slice hc4.2
      subst hbv
      have HC4 := hide hc4
      have hs4 := hc4.1.size
      have HWT4 := hide (cur_on HWT.out hc4.1)
      clear hc4 CB d2 d3
      go_wp2_with fail
      refine (sameTexts_any (cur_rd HC4.out) (cur_rd HWT4.out)).mono ?_
      rintro e w5 ⟨rfl, hb5⟩
      have HC5 := hide (cur_on HC4.out hb5)
      have hs5 := hb5.size
      have HB05 : Hid (Below w.heap.size w w5) := by
        show Below _ _ _
        exact (HB02.out.trans (HC.out.1.mono (by omega))).trans (HC5.out.1.mono (by omega))
      clear hb5
      have HBW5 := hide ((HB05.out.block wb hwl).trans HBLKC.out)
      have HRW5 := hide (own_same HROW.out (fun g hg => HB05.out.block g (own_block HROW.out hg).2.1))
      have CK := hide (keepTexts2_any w5 wr.heap.size wb B _ kv _ N _ xs C HC5.out.2 (by omega) (by omega) HBW5.out HCS.out HCK.out HRW5.out (fun g hg => by have := (own_block HROW.out hg).2.1; omega) (by omega) (by omega) (by omega))
      go_wp2_with fail
      refine CK.out.mono ?_
      rintro e w6 ⟨rfl, tv', va', vb', vc', hK, _⟩
      have HA6 := hide (aft_of HB05.out (by omega) hK)
      clear hK CK
      go_wp2
      go_ret
      exact ⟨rfl, _, _, _, by omega, HA6.out⟩
end Go.Proofs.YtkncboinfcnklaaGreatDoor.Str

namespace Go.Proofs.YtkncboinfcnklaaGreatDoor
open Go.RowKit Go.Deep Go.Proofs.YtkncboinfcnklaaGreatDoor.Mth

/-- The cells of the law's world, where lists and sets alone are asked. -/
def LC (g0 g1 g2 g3 iv tv rv sv ki kt : Value) : Array Value := #[g0, g1, g2, g3, iv, tv, rv, sv, .slice none 0 0, .slice none 0 0, ki, kt, .slice none 0 0, .slice none 0 0, .slice none 0 0]
structure LI (w : World) (B wb : Nat) (g0 g1 g2 g3 iv tv rv sv ki kt : Value) (ns Ni Nt M : Nat) (sbI : Nat → Nat) (TI : Nat → BT Int) (rI : Nat → Value) (sbS : Nat → Nat) (TS : Nat → BT ByteArray) (rS : Nat → Value) : Prop where
  blk : w.heap[wb]? = some (Obj.cells (LC g0 g1 g2 g3 iv tv rv sv ki kt) 91 (0, 0))
  ge : B ≤ wb
  s0 : ∃ a n c, g0 = .slice a n c
  bi : Book w B 163 3 1 fI ki Ni
  bt : Book w B 166 9 1 fT kt Nt
  ni : Ni = 0 → ki = .slice none 0 0
  nt : Nt = 0 → kt = .slice none 0 0
  si : WI.SSet w B iv rv ns M sbI TI rI
  ss : Str.SSet w B tv sv ns M sbS TS rS
  mi : Ni ≤ M
  mt : Nt ≤ M
  ms : ns ≤ M
def LInv (w : World) (B wb : Nat) (g0 g1 g2 g3 : Value) (M : Nat) : Prop := ∃ iv tv rv sv ki kt ns Ni Nt sbI TI rI sbS TS rS, LI w B wb g0 g1 g2 g3 iv tv rv sv ki kt ns Ni Nt M sbI TI rI sbS TS rS

theorem LI.below {w w' : World} {B wb : Nat} {g0 g1 g2 g3 iv tv rv sv ki kt : Value} {ns Ni Nt M : Nat} {sbI : Nat → Nat} {TI : Nat → BT Int} {rI : Nat → Value} {sbS : Nat → Nat} {TS : Nat → BT ByteArray} {rS : Nat → Value} (h : LI w B wb g0 g1 g2 g3 iv tv rv sv ki kt ns Ni Nt M sbI TI rI sbS TS rS) (hb : Below w.heap.size w w') : LI w' B wb g0 g1 g2 g3 iv tv rv sv ki kt ns Ni Nt M sbI TI rI sbS TS rS :=
  ⟨(hb.block wb (Array.getElem?_eq_some_iff.1 h.blk).1).trans h.blk, h.ge, h.s0, h.bi.below hb, h.bt.below hb, h.ni, h.nt, h.si.below hb, h.ss.below hb, h.mi, h.mt, h.ms⟩
theorem LI.mono {w : World} {B wb : Nat} {g0 g1 g2 g3 iv tv rv sv ki kt : Value} {ns Ni Nt M M' : Nat} {sbI : Nat → Nat} {TI : Nat → BT Int} {rI : Nat → Value} {sbS : Nat → Nat} {TS : Nat → BT ByteArray} {rS : Nat → Value} (h : LI w B wb g0 g1 g2 g3 iv tv rv sv ki kt ns Ni Nt M sbI TI rI sbS TS rS) (hM : M ≤ M') : LI w B wb g0 g1 g2 g3 iv tv rv sv ki kt ns Ni Nt M' sbI TI rI sbS TS rS :=
  ⟨h.blk, h.ge, h.s0, h.bi, h.bt, h.ni, h.nt, h.si.mono hM, h.ss.mono hM, Nat.le_trans h.mi hM, Nat.le_trans h.mt hM, Nat.le_trans h.ms hM⟩

theorem Aft.touched {w0 w' : World} {B wb off : Nat} {T e : TypeId} {sz : Nat} {f : Nat → Value} {tv tv' : Value} {N : Nat} {xs : List Value} {C : Array Value} {Q : Qd} {n : Nat} (h : Aft w0 w' B wb off T e sz f tv tv' N xs C Q n) : Tch (fun k => k = wb ∨ some k = tv.ownBlock) w0 w' :=
  ⟨h.os, h.tape, h.output, h.size, fun k hk hn => h.same k hk (fun q => hn (Or.inl q)) (fun q => hn (Or.inr q))⟩
theorem book_first {w : World} {e : TypeId} {sz : Nat} {F : Nat → Nat → Value} {v : Value} {N : Nat} {q : Nat → Qd} (hn : N = 0 → v = .slice none 0 0) (hall : ∀ i, i < N → (∃ n, n ≤ 4194304 ∧ RdM w e sz (q i).l n (F i)) ∧ (∃ n, n ≤ 4194304 ∧ RdM w e sz (q i).a n (F i)) ∧ (∃ n, n ≤ 4194304 ∧ RdM w e sz (q i).b n (F i)) ∧ (∃ n, n ≤ 4194304 ∧ RdM w e sz (q i).c n (F i))) : Fst0 v ((List.range N).flatMap (qc q)) := by
  by_cases c : N = 0
  · left; rw [hn c]; rfl
  · right
    obtain ⟨n, _, hr⟩ := (hall 0 (by omega)).1
    obtain ⟨a, cc, e, _, _⟩ := rdM_len hr
    have k0 := (qc_at (q := q) (show 0 < N by omega)).1
    rw [Nat.zero_mul] at k0
    exact ⟨_, k0, Or.inr ⟨_, _, _, e⟩⟩

/-- A list of numbers came out, and is kept. -/
theorem LI.int {w w' : World} {B wb : Nat} {g0 g1 g2 g3 iv tv rv sv ki kt ki' : Value} {ns Ni Nt M n : Nat} {sbI : Nat → Nat} {TI : Nat → BT Int} {rI : Nat → Value} {sbS : Nat → Nat} {TS : Nat → BT ByteArray} {rS : Nat → Value} {q : Nat → Qd} {Q : Qd} (h : LI w B wb g0 g1 g2 g3 iv tv rv sv ki kt ns Ni Nt M sbI TI rI sbS TS rS) (hrow : w.ownsRow B 163 5 ki Ni ((List.range Ni).flatMap (qc q))) (hall : ∀ i, i < Ni → (∃ n, n ≤ 4194304 ∧ RdM w 3 1 (q i).l n (fI i)) ∧ (∃ n, n ≤ 4194304 ∧ RdM w 3 1 (q i).a n (fI i)) ∧ (∃ n, n ≤ 4194304 ∧ RdM w 3 1 (q i).b n (fI i)) ∧ (∃ n, n ≤ 4194304 ∧ RdM w 3 1 (q i).c n (fI i)))
    (ha : Aft w w' B wb 10 163 3 1 (fI Ni) ki ki' Ni ((List.range Ni).flatMap (qc q)) (LC g0 g1 g2 g3 iv tv rv sv ki kt) Q n) (hn : n + 3 ≤ 4194304) : LI w' B wb g0 g1 g2 g3 iv tv rv sv ki' kt ns (Ni + 1) Nt (M + 1) sbI TI rI sbS TS rS := by
  have hF := book_first h.ni hall
  obtain ⟨z0, z1, z2, hz⟩ := h.s0
  have h0 : ∃ a n c, (LC g0 g1 g2 g3 iv tv rv sv ki kt)[0]? = some (.slice a n c) := ⟨z0, z1, z2, by rw [hz]; rfl⟩
  refine ⟨?_, h.ge, h.s0, ha.book h.blk hrow hall (by decide) (by decide) hn, ha.other h.blk hrow h.bt (by decide) (by decide) (by decide) (by decide), fun c => by omega, h.nt, (h.si.tch ha.touched h.blk h0 hrow (by unfold WI.SetTy; decide) hF.int).mono (Nat.le_succ _), (h.ss.tch ha.touched h.blk h0 hrow (by unfold Str.SetTy; decide) hF.str).mono (Nat.le_succ _), by have := h.mi; omega, by have := h.mt; omega, by have := h.ms; omega⟩
  rw [ha.wblk]
  rfl
/-- A list of texts came out, and is kept. -/
theorem LI.str {w w' : World} {B wb : Nat} {g0 g1 g2 g3 iv tv rv sv ki kt kt' : Value} {ns Ni Nt M n : Nat} {sbI : Nat → Nat} {TI : Nat → BT Int} {rI : Nat → Value} {sbS : Nat → Nat} {TS : Nat → BT ByteArray} {rS : Nat → Value} {q : Nat → Qd} {Q : Qd} (h : LI w B wb g0 g1 g2 g3 iv tv rv sv ki kt ns Ni Nt M sbI TI rI sbS TS rS) (hrow : w.ownsRow B 166 5 kt Nt ((List.range Nt).flatMap (qc q))) (hall : ∀ i, i < Nt → (∃ n, n ≤ 4194304 ∧ RdM w 9 1 (q i).l n (fT i)) ∧ (∃ n, n ≤ 4194304 ∧ RdM w 9 1 (q i).a n (fT i)) ∧ (∃ n, n ≤ 4194304 ∧ RdM w 9 1 (q i).b n (fT i)) ∧ (∃ n, n ≤ 4194304 ∧ RdM w 9 1 (q i).c n (fT i)))
    (ha : Aft w w' B wb 11 166 9 1 (fT Nt) kt kt' Nt ((List.range Nt).flatMap (qc q)) (LC g0 g1 g2 g3 iv tv rv sv ki kt) Q n) (hn : n + 3 ≤ 4194304) : LI w' B wb g0 g1 g2 g3 iv tv rv sv ki kt' ns Ni (Nt + 1) (M + 1) sbI TI rI sbS TS rS := by
  have hF := book_first h.nt hall
  obtain ⟨z0, z1, z2, hz⟩ := h.s0
  have h0 : ∃ a n c, (LC g0 g1 g2 g3 iv tv rv sv ki kt)[0]? = some (.slice a n c) := ⟨z0, z1, z2, by rw [hz]; rfl⟩
  refine ⟨?_, h.ge, h.s0, ha.other h.blk hrow h.bi (by decide) (by decide) (by decide) (by decide), ha.book h.blk hrow hall (by decide) (by decide) hn, h.ni, fun c => by omega, (h.si.tch ha.touched h.blk h0 hrow (by unfold WI.SetTy; decide) hF.int).mono (Nat.le_succ _), (h.ss.tch ha.touched h.blk h0 hrow (by unfold Str.SetTy; decide) hF.str).mono (Nat.le_succ _), by have := h.mi; omega, by have := h.mt; omega, by have := h.ms; omega⟩
  rw [ha.wblk]
  rfl
end Go.Proofs.YtkncboinfcnklaaGreatDoor

namespace Go.Proofs.YtkncboinfcnklaaGreatDoor
open Go.RowKit Go.Deep Go.Proofs.YtkncboinfcnklaaGreatDoor.Mth

/-- What is touched has types of some kind only. -/
theorem tch_typed {S : Nat → Prop} {P : TypeId → Prop} {w w' : World} (ht : Tch S w w') (hS : ∀ k, S k → ∃ D t, w.heap[k]? = some (Obj.cells D t (0, 0)) ∧ P t) : ∀ (g : Nat) D t, ¬ P t → w.heap[g]? = some (Obj.cells D t (0, 0)) → w'.heap[g]? = w.heap[g]? := by
  intro g D t hP hD
  refine ht.block g (Array.getElem?_eq_some_iff.1 hD).1 (fun q => ?_)
  obtain ⟨E, t', hE, ht'⟩ := hS g q
  rw [hD] at hE
  injection hE with hE
  injection hE with _ hE _
  subst hE
  exact hP ht'

/-- An Add into a set of numbers. -/
theorem LI.addI {w w' : World} {B wb s : Nat} {g0 g1 g2 g3 iv tv rv sv ki kt : Value} {ns Ni Nt M : Nat} {sbI : Nat → Nat} {TI TI' : Nat → BT Int} {rI rI' : Nat → Value} {sbS : Nat → Nat} {TS : Nat → BT ByteArray} {rS : Nat → Value} (h : LI w B wb g0 g1 g2 g3 iv tv rv sv ki kt ns Ni Nt M sbI TI rI sbS TS rS) (hs : ∃ i, i < ns ∧ sbI i = s) (ht : Tch (fun k => k = s ∨ some k = rv.ownBlock) w w') (hI : WI.SSet w' B iv rv ns (M + 1) sbI TI' rI') : LI w' B wb g0 g1 g2 g3 iv tv rv sv ki kt ns Ni Nt (M + 1) sbI TI' rI' sbS TS rS := by
  obtain ⟨i, hi, rfl⟩ := hs
  obtain ⟨Ds, hDs⟩ := h.si.typ i hi
  have k1 := tch_typed (P := fun t => t = 208 ∨ t = 149) ht (by
    rintro k (rfl | q)
    · exact ⟨_, _, hDs, Or.inl rfl⟩
    · obtain ⟨_, _, D, hD⟩ := own_block h.si.ref q
      exact ⟨_, _, hD, Or.inr rfl⟩)
  have k2 : ∀ (g : Nat) (a : ByteArray), w.cell? ⟨g, 0, none⟩ = some (Str.eS a) → w'.heap[g]? = w.heap[g]? := by
    intro g a hc
    refine ht.block g (World.block_lt_of_cell? _ _ hc) (fun q => ?_)
    rcases q with rfl | q
    · have := (h.si.one i hi).1
      rw [hc] at this
      obtain ⟨u, hu⟩ := WI.ptr_pointer (TI i)
      rw [hu] at this
      cases this
    · obtain ⟨a', c', e, _, _⟩ := own_slice h.si.ref
      have hr := h.si.ref
      rw [e] at hr q
      obtain ⟨g', rfl⟩ := WI.own_first hr (by omega)
      simp [Value.ownBlock] at q
      subst q
      have := WI.row_cell hr (show 0 < ns by omega)
      obtain ⟨a2, c2, e2, _, _⟩ := own_slice (h.si.own 0 (by omega))
      rw [e2] at this
      rw [hc] at this
      cases this
  refine ⟨(k1 _ _ _ (by decide) h.blk).trans h.blk, h.ge, h.s0, h.bi.keep (fun g C hC => k1 g C _ (by decide) hC) (fun g C hC => k1 g C _ (by decide) hC), h.bt.keep (fun g C hC => k1 g C _ (by decide) hC) (fun g C hC => k1 g C _ (by decide) hC), h.ni, h.nt, hI, (h.ss.keep (fun g D t hst hD => k1 g D t ?_ hD) k2).mono (Nat.le_succ _), Nat.le_succ_of_le h.mi, Nat.le_succ_of_le h.mt, Nat.le_succ_of_le h.ms⟩
  rcases hst with rfl | rfl | rfl | rfl <;> decide
/-- An Add into a set of texts. -/
theorem LI.addS {w w' : World} {B wb s : Nat} {g0 g1 g2 g3 iv tv rv sv ki kt : Value} {ns Ni Nt M : Nat} {sbI : Nat → Nat} {TI : Nat → BT Int} {rI : Nat → Value} {sbS : Nat → Nat} {TS TS' : Nat → BT ByteArray} {rS rS' : Nat → Value} (h : LI w B wb g0 g1 g2 g3 iv tv rv sv ki kt ns Ni Nt M sbI TI rI sbS TS rS) (hs : ∃ i, i < ns ∧ sbS i = s) (ht : Tch (fun k => k = s ∨ some k = sv.ownBlock) w w') (hI : Str.SSet w' B tv sv ns (M + 1) sbS TS' rS') : LI w' B wb g0 g1 g2 g3 iv tv rv sv ki kt ns Ni Nt (M + 1) sbI TI rI sbS TS' rS' := by
  obtain ⟨i, hi, rfl⟩ := hs
  obtain ⟨Ds, hDs⟩ := h.ss.typ i hi
  have k1 := tch_typed (P := fun t => t = 289 ∨ t = 58) ht (by
    rintro k (rfl | q)
    · exact ⟨_, _, hDs, Or.inl rfl⟩
    · obtain ⟨_, _, D, hD⟩ := own_block h.ss.ref q
      exact ⟨_, _, hD, Or.inr rfl⟩)
  have k2 : ∀ (g : Nat) (a : Int), w.cell? ⟨g, 0, none⟩ = some (WI.eI a) → w'.heap[g]? = w.heap[g]? := by
    intro g a hc
    refine ht.block g (World.block_lt_of_cell? _ _ hc) (fun q => ?_)
    rcases q with rfl | q
    · have := (h.ss.one i hi).1
      rw [hc] at this
      obtain ⟨u, hu⟩ := Str.ptr_pointer (TS i)
      rw [hu] at this
      cases this
    · obtain ⟨a', c', e, _, _⟩ := own_slice h.ss.ref
      have hr := h.ss.ref
      rw [e] at hr q
      obtain ⟨g', rfl⟩ := WI.own_first hr (by omega)
      simp [Value.ownBlock] at q
      subst q
      have := WI.row_cell hr (show 0 < ns by omega)
      obtain ⟨a2, c2, e2, _, _⟩ := own_slice (h.ss.own 0 (by omega))
      rw [e2] at this
      rw [hc] at this
      cases this
  refine ⟨(k1 _ _ _ (by decide) h.blk).trans h.blk, h.ge, h.s0, h.bi.keep (fun g C hC => k1 g C _ (by decide) hC) (fun g C hC => k1 g C _ (by decide) hC), h.bt.keep (fun g C hC => k1 g C _ (by decide) hC) (fun g C hC => k1 g C _ (by decide) hC), h.ni, h.nt, (h.si.keep (fun g D t hst hD => k1 g D t ?_ hD) k2).mono (Nat.le_succ _), hI, Nat.le_succ_of_le h.mi, Nat.le_succ_of_le h.mt, Nat.le_succ_of_le h.ms⟩
  rcases hst with rfl | rfl | rfl | rfl <;> decide
/-- One set more of each. -/
theorem LI.more {w w' : World} {B wb : Nat} {g0 g1 g2 g3 iv tv rv sv iv' tv' rv' sv' ki kt : Value} {ns Ni Nt M : Nat} {sbI sbI' : Nat → Nat} {TI TI' : Nat → BT Int} {rI rI' : Nat → Value} {sbS sbS' : Nat → Nat} {TS TS' : Nat → BT ByteArray} {rS rS' : Nat → Value} (h : LI w B wb g0 g1 g2 g3 iv tv rv sv ki kt ns Ni Nt M sbI TI rI sbS TS rS) (hblk : w'.heap[wb]? = some (Obj.cells (LC g0 g1 g2 g3 iv' tv' rv' sv' ki kt) 91 (0, 0))) (hI : WI.SSet w' B iv' rv' (ns + 1) M sbI' TI' rI') (hS : Str.SSet w' B tv' sv' (ns + 1) M sbS' TS' rS') (ht : Tch (fun k => k = wb ∨ some k = iv.ownBlock ∨ some k = tv.ownBlock ∨ some k = rv.ownBlock ∨ some k = sv.ownBlock) w w') : LI w' B wb g0 g1 g2 g3 iv' tv' rv' sv' ki kt (ns + 1) Ni Nt (M + 1) sbI' TI' rI' sbS' TS' rS' := by
  have k1 := tch_typed (P := fun t => t = 91 ∨ t = 269 ∨ t = 286 ∨ t = 149 ∨ t = 58) ht (by
    rintro k (rfl | q | q | q | q)
    · exact ⟨_, _, h.blk, Or.inl rfl⟩
    · obtain ⟨_, _, D, hD⟩ := own_block h.si.row q
      exact ⟨_, _, hD, Or.inr (Or.inl rfl)⟩
    · obtain ⟨_, _, D, hD⟩ := own_block h.ss.row q
      exact ⟨_, _, hD, Or.inr (Or.inr (Or.inl rfl))⟩
    · obtain ⟨_, _, D, hD⟩ := own_block h.si.ref q
      exact ⟨_, _, hD, Or.inr (Or.inr (Or.inr (Or.inl rfl)))⟩
    · obtain ⟨_, _, D, hD⟩ := own_block h.ss.ref q
      exact ⟨_, _, hD, Or.inr (Or.inr (Or.inr (Or.inr rfl)))⟩)
  exact ⟨hblk, h.ge, h.s0, h.bi.keep (fun g C hC => k1 g C _ (by decide) hC) (fun g C hC => k1 g C _ (by decide) hC), h.bt.keep (fun g C hC => k1 g C _ (by decide) hC) (fun g C hC => k1 g C _ (by decide) hC), h.ni, h.nt, hI.mono (Nat.le_succ _), hS.mono (Nat.le_succ _), Nat.le_succ_of_le h.mi, Nat.le_succ_of_le h.mt, by have := h.ms; omega⟩
end Go.Proofs.YtkncboinfcnklaaGreatDoor

namespace Go.Proofs.YtkncboinfcnklaaGreatDoor
open Go.RowKit Go.Deep Go.Proofs.YtkncboinfcnklaaGreatDoor.Mth

/-- Steps that may be, where lists and sets are asked. -/
def OkL (o : Opr) : Prop := -9223372036854775808 ≤ o.A ∧ o.A < 9223372036854775808 ∧ -9223372036854775808 ≤ o.B ∧ o.B < 9223372036854775808 ∧ -9223372036854775808 ≤ o.C ∧ o.C < 9223372036854775808

theorem tch_base {S : Nat → Prop} {B : Nat} {w0 w w' : World} (h0 : Below B w0 w) (hB : B ≤ w.heap.size) (ht : Tch S w w') (hS : ∀ k, S k → B ≤ k) : Below B w0 w' :=
  ⟨ht.os.trans h0.os, ht.tape.trans h0.tape, ht.output.trans h0.output, Nat.le_trans h0.size ht.size, fun k hk => (ht.block k (by omega) (fun q => by have := hS k q; omega)).trans (h0.block k hk)⟩
theorem keepO_tch {S : Nat → Prop} {w w' : World} (ht : Tch S w w') (hS : ∀ k, S k → ∃ D t, w.heap[k]? = some (Obj.cells D t (0, 0)) ∧ t ≠ 94) : KeepO w w' :=
  fun g C hC => tch_typed (P := fun t => t ≠ 94) ht hS g C _ (fun q => q rfl) hC

theorem intLists_any (Win w : World) (wb : Nat) (g0 g1 g2 g3 : Value) (Ls : List (List Int)) (M : Nat) (o : Opr) (hW : Below Win.heap.size Win w) (hL : LInv w Win.heap.size wb g0 g1 g2 g3 M) (hG : WI.RdL Win g0 Ls) (hLe : ∀ L ∈ Ls, L.length ≤ 1048576) (hLs : Ls.length ≤ 1048576) (ho : OkL o) (hk : o.k = 1 ∨ o.k = 2) (hM : M ≤ 4000000) :
    Calls Tryz.prog 104 #[.pointer (some ⟨wb, 0, none⟩), oV o] w fun e w' => e = .returned (.bool true) ∧ LInv w' Win.heap.size wb g0 g1 g2 g3 (M + 1) ∧ Below Win.heap.size Win w' ∧ KeepO w w' := by
  obtain ⟨iv, tv, rv, sv, ki, kt, ns, Ni, Nt, sbI, TI, rI, sbS, TS, rS, h⟩ := hL
  obtain ⟨q, hrow, hall⟩ := h.bi
  obtain ⟨k, A, B, C, S, T⟩ := o
  obtain ⟨a0, a1, b0, b1, c0, c1⟩ := ho
  have hmi := h.mi
  have fin : ∀ (e : Ending) (w' : World), (e = .returned (.bool true) ∧ ∃ kv' Q n, n + 3 ≤ 4194304 ∧ Aft w w' Win.heap.size wb 10 163 3 1 (fI Ni) ki kv' Ni ((List.range Ni).flatMap (qc q)) (LC g0 g1 g2 g3 iv tv rv sv ki kt) Q n) → e = .returned (.bool true) ∧ LInv w' Win.heap.size wb g0 g1 g2 g3 (M + 1) ∧ Below Win.heap.size Win w' ∧ KeepO w w' := by
    rintro e w' ⟨rfl, kv', Q, n, hn, ha⟩
    exact ⟨rfl, ⟨_, _, _, _, _, _, _, _, _, _, _, _, _, _, _, h.int hrow hall ha hn⟩, hW.trans (ha.frame h.ge hrow hW.size), ha.keepO h.blk hrow (by decide)⟩
  rcases hk with hk | hk
  · simp only at hk
    subst hk
    exact (WI.merge_step Win w wb g0 ki Ls Ni _ (LC g0 g1 g2 g3 iv tv rv sv ki kt) A B C S T hW h.blk rfl rfl rfl h.ge hG hLe hLs hrow (by omega) a0 a1 b0 b1 c0 c1).mono fin
  · simp only at hk
    subst hk
    exact (WI.common_step Win w wb g0 ki Ls Ni _ (LC g0 g1 g2 g3 iv tv rv sv ki kt) A B C S T hW h.blk rfl rfl rfl h.ge hG hLe hLs hrow (by omega) a0 a1 b0 b1 c0 c1).mono fin

theorem textLists_any (Win w : World) (wb : Nat) (g0 g1 g2 g3 : Value) (Ls : List (List ByteArray)) (M : Nat) (o : Opr) (hW : Below Win.heap.size Win w) (hL : LInv w Win.heap.size wb g0 g1 g2 g3 M) (hG : Str.RdL Win g1 Ls) (hLe : ∀ L ∈ Ls, L.length ≤ 1048576) (hLs : Ls.length ≤ 1048576) (ho : OkL o) (hk : o.k = 1 ∨ o.k = 2) (hM : M ≤ 4000000) :
    Calls Tryz.prog 105 #[.pointer (some ⟨wb, 0, none⟩), oV o] w fun e w' => e = .returned (.bool true) ∧ LInv w' Win.heap.size wb g0 g1 g2 g3 (M + 1) ∧ Below Win.heap.size Win w' ∧ KeepO w w' := by
  obtain ⟨iv, tv, rv, sv, ki, kt, ns, Ni, Nt, sbI, TI, rI, sbS, TS, rS, h⟩ := hL
  obtain ⟨q, hrow, hall⟩ := h.bt
  obtain ⟨k, A, B, C, S, T⟩ := o
  obtain ⟨a0, a1, b0, b1, c0, c1⟩ := ho
  have hmt := h.mt
  have fin : ∀ (e : Ending) (w' : World), (e = .returned (.bool true) ∧ ∃ kv' Q n, n + 3 ≤ 4194304 ∧ Aft w w' Win.heap.size wb 11 166 9 1 (fT Nt) kt kv' Nt ((List.range Nt).flatMap (qc q)) (LC g0 g1 g2 g3 iv tv rv sv ki kt) Q n) → e = .returned (.bool true) ∧ LInv w' Win.heap.size wb g0 g1 g2 g3 (M + 1) ∧ Below Win.heap.size Win w' ∧ KeepO w w' := by
    rintro e w' ⟨rfl, kv', Q, n, hn, ha⟩
    exact ⟨rfl, ⟨_, _, _, _, _, _, _, _, _, _, _, _, _, _, _, h.str hrow hall ha hn⟩, hW.trans (ha.frame h.ge hrow hW.size), ha.keepO h.blk hrow (by decide)⟩
  rcases hk with hk | hk
  · simp only at hk
    subst hk
    exact (Str.merge_step Win w wb g1 kt Ls Nt _ (LC g0 g1 g2 g3 iv tv rv sv ki kt) A B C S T hW h.blk rfl rfl rfl h.ge hG hLe hLs hrow (by omega) a0 a1 b0 b1 c0 c1).mono fin
  · simp only at hk
    subst hk
    exact (Str.common_step Win w wb g1 kt Ls Nt _ (LC g0 g1 g2 g3 iv tv rv sv ki kt) A B C S T hW h.blk rfl rfl rfl h.ge hG hLe hLs hrow (by omega) a0 a1 b0 b1 c0 c1).mono fin

/-- Where there are sets. -/
def LIn (w : World) (B wb : Nat) (g0 g1 g2 g3 : Value) (M : Nat) : Prop := ∃ iv tv rv sv ki kt ns Ni Nt sbI TI rI sbS TS rS, 0 < ns ∧ LI w B wb g0 g1 g2 g3 iv tv rv sv ki kt ns Ni Nt M sbI TI rI sbS TS rS

theorem intSets_any (Win w : World) (wb : Nat) (g0 g1 g2 g3 : Value) (M : Nat) (o : Opr) (hW : Below Win.heap.size Win w) (hL : LIn w Win.heap.size wb g0 g1 g2 g3 M) (ho : OkL o) (hk : o.k = 4 ∨ o.k = 5 ∨ o.k = 6) (hM : M ≤ 4000000) :
    Calls Tryz.prog 107 #[.pointer (some ⟨wb, 0, none⟩), oV o] w fun e w' => e = .returned (.bool true) ∧ LIn w' Win.heap.size wb g0 g1 g2 g3 (M + 1) ∧ Below Win.heap.size Win w' ∧ KeepO w w' := by
  obtain ⟨iv, tv, rv, sv, ki, kt, ns, Ni, Nt, sbI, TI, rI, sbS, TS, rS, hns, h⟩ := hL
  obtain ⟨q, hrow, hall⟩ := h.bi
  obtain ⟨k, A, B, C, S, T⟩ := o
  obtain ⟨a0, a1, b0, b1, c0, c1⟩ := ho
  have hmi := h.mi
  have hms := h.ms
  rcases hk with hk | hk | hk
  · simp only at hk
    subst hk
    refine (WI.add_step w Win.heap.size wb g0 g1 g2 g3 tv sv _ _ ki kt _ _ _ iv rv ns M sbI TI rI A B C S T h.blk h.si hW.size hns (by omega) hM a0 a1 c0 c1).mono ?_
    rintro e w' ⟨rfl, s, TI', rI', hge, hs, ht, hI'⟩
    refine ⟨rfl, ⟨_, _, _, _, _, _, _, _, _, _, _, _, _, _, _, hns, h.addI hs ht hI'⟩, tch_base hW hW.size ht ?_, keepO_tch ht ?_⟩
    · rintro k (rfl | q)
      · exact hge
      · exact (own_block h.si.ref q).1
    · rintro k (rfl | q)
      · obtain ⟨i, hi, rfl⟩ := hs
        obtain ⟨D, hD⟩ := h.si.typ i hi
        exact ⟨_, _, hD, by decide⟩
      · obtain ⟨_, _, D, hD⟩ := own_block h.si.ref q
        exact ⟨_, _, hD, by decide⟩
  · simp only at hk
    subst hk
    refine (WI.has_step w Win.heap.size wb g0 g1 g2 g3 tv sv _ _ ki kt _ _ _ iv rv ns M sbI TI rI A B C S T h.blk h.si hns (by omega) (by omega) a0 a1 c0 c1).mono ?_
    rintro e w' ⟨rfl, hb⟩
    exact ⟨rfl, ⟨_, _, _, _, _, _, _, _, _, _, _, _, _, _, _, hns, (h.below hb).mono (Nat.le_succ _)⟩, hW.trans (hb.mono hW.size), keepO_below hb⟩
  · simp only at hk
    subst hk
    refine (WI.between_step w Win.heap.size wb g0 g1 g2 g3 tv sv _ _ ki kt _ _ _ iv rv ki ns M Ni _ (LC g0 g1 g2 g3 iv tv rv sv ki kt) sbI TI rI A B C S T rfl h.blk rfl h.ge h.si hrow (by omega) hW.size hns (by omega) hM a0 a1).mono ?_
    rintro e w' ⟨rfl, kv', Q, n, hn, ha⟩
    exact ⟨rfl, ⟨_, _, _, _, _, _, _, _, _, _, _, _, _, _, _, hns, h.int hrow hall ha hn⟩, hW.trans (ha.frame h.ge hrow hW.size), ha.keepO h.blk hrow (by decide)⟩

theorem textSets_any (Win w : World) (wb : Nat) (g0 g1 g2 g3 : Value) (M : Nat) (o : Opr) (hW : Below Win.heap.size Win w) (hL : LIn w Win.heap.size wb g0 g1 g2 g3 M) (ho : OkL o) (hk : o.k = 4 ∨ o.k = 5 ∨ o.k = 6) (hM : M ≤ 4000000) :
    Calls Tryz.prog 108 #[.pointer (some ⟨wb, 0, none⟩), oV o] w fun e w' => e = .returned (.bool true) ∧ LIn w' Win.heap.size wb g0 g1 g2 g3 (M + 1) ∧ Below Win.heap.size Win w' ∧ KeepO w w' := by
  obtain ⟨iv, tv, rv, sv, ki, kt, ns, Ni, Nt, sbI, TI, rI, sbS, TS, rS, hns, h⟩ := hL
  obtain ⟨q, hrow, hall⟩ := h.bt
  obtain ⟨k, A, B, C, S, T⟩ := o
  obtain ⟨a0, a1, b0, b1, c0, c1⟩ := ho
  have hmt := h.mt
  have hms := h.ms
  rcases hk with hk | hk | hk
  · simp only at hk
    subst hk
    refine (Str.add_step w Win.heap.size wb g0 g1 g2 g3 iv rv _ _ ki kt _ _ _ tv sv ns M sbS TS rS A B C S T h.blk h.ss hW.size hns (by omega) hM a0 a1 c0 c1).mono ?_
    rintro e w' ⟨rfl, s, TS', rS', hge, hs, ht, hI'⟩
    refine ⟨rfl, ⟨_, _, _, _, _, _, _, _, _, _, _, _, _, _, _, hns, h.addS hs ht hI'⟩, tch_base hW hW.size ht ?_, keepO_tch ht ?_⟩
    · rintro k (rfl | q)
      · exact hge
      · exact (own_block h.ss.ref q).1
    · rintro k (rfl | q)
      · obtain ⟨i, hi, rfl⟩ := hs
        obtain ⟨D, hD⟩ := h.ss.typ i hi
        exact ⟨_, _, hD, by decide⟩
      · obtain ⟨_, _, D, hD⟩ := own_block h.ss.ref q
        exact ⟨_, _, hD, by decide⟩
  · simp only at hk
    subst hk
    refine (Str.has_step w Win.heap.size wb g0 g1 g2 g3 iv rv _ _ ki kt _ _ _ tv sv ns M sbS TS rS A B C S T h.blk h.ss hns (by omega) (by omega) a0 a1 c0 c1).mono ?_
    rintro e w' ⟨rfl, hb⟩
    exact ⟨rfl, ⟨_, _, _, _, _, _, _, _, _, _, _, _, _, _, _, hns, (h.below hb).mono (Nat.le_succ _)⟩, hW.trans (hb.mono hW.size), keepO_below hb⟩
  · simp only at hk
    subst hk
    refine (Str.between_step w Win.heap.size wb g0 g1 g2 g3 iv rv _ _ ki kt _ _ _ tv sv kt ns M Nt _ (LC g0 g1 g2 g3 iv tv rv sv ki kt) sbS TS rS A B C S T rfl h.blk rfl h.ge h.ss hrow (by omega) hW.size hns (by omega) hM a0 a1).mono ?_
    rintro e w' ⟨rfl, kv', Q, n, hn, ha⟩
    exact ⟨rfl, ⟨_, _, _, _, _, _, _, _, _, _, _, _, _, _, _, hns, h.str hrow hall ha hn⟩, hW.trans (ha.frame h.ge hrow hW.size), ha.keepO h.blk hrow (by decide)⟩
end Go.Proofs.YtkncboinfcnklaaGreatDoor

namespace Go.Proofs.YtkncboinfcnklaaGreatDoor
open Go.RowKit Go.Deep Go.Proofs.YtkncboinfcnklaaGreatDoor.Mth

theorem LInv.below {w w' : World} {B wb : Nat} {g0 g1 g2 g3 : Value} {M : Nat} (h : LInv w B wb g0 g1 g2 g3 M) (hb : Below w.heap.size w w') : LInv w' B wb g0 g1 g2 g3 M := by
  obtain ⟨iv, tv, rv, sv, ki, kt, ns, Ni, Nt, sbI, TI, rI, sbS, TS, rS, h⟩ := h
  exact ⟨_, _, _, _, _, _, _, _, _, _, _, _, _, _, _, h.below hb⟩
theorem LInv.mono {w : World} {B wb : Nat} {g0 g1 g2 g3 : Value} {M M' : Nat} (h : LInv w B wb g0 g1 g2 g3 M) (hM : M ≤ M') : LInv w B wb g0 g1 g2 g3 M' := by
  obtain ⟨iv, tv, rv, sv, ki, kt, ns, Ni, Nt, sbI, TI, rI, sbS, TS, rS, h⟩ := h
  exact ⟨_, _, _, _, _, _, _, _, _, _, _, _, _, _, _, h.mono hM⟩
theorem LIn.below {w w' : World} {B wb : Nat} {g0 g1 g2 g3 : Value} {M : Nat} (h : LIn w B wb g0 g1 g2 g3 M) (hb : Below w.heap.size w w') : LIn w' B wb g0 g1 g2 g3 M := by
  obtain ⟨iv, tv, rv, sv, ki, kt, ns, Ni, Nt, sbI, TI, rI, sbS, TS, rS, hn, h⟩ := h
  exact ⟨_, _, _, _, _, _, _, _, _, _, _, _, _, _, _, hn, h.below hb⟩
theorem LIn.inv {w : World} {B wb : Nat} {g0 g1 g2 g3 : Value} {M : Nat} (h : LIn w B wb g0 g1 g2 g3 M) : LInv w B wb g0 g1 g2 g3 M := by
  obtain ⟨iv, tv, rv, sv, ki, kt, ns, Ni, Nt, sbI, TI, rI, sbS, TS, rS, hn, h⟩ := h
  exact ⟨_, _, _, _, _, _, _, _, _, _, _, _, _, _, _, h⟩
theorem KeepO.trans {w w1 w2 : World} (h : KeepO w w1) (h2 : KeepO w1 w2) : KeepO w w2 := fun g C hC => (h2 g C ((h g C hC).trans hC)).trans (h g C hC)

theorem setsL_any (Win w : World) (wb : Nat) (g0 g1 g2 g3 : Value) (M : Nat) (hW : Below Win.heap.size Win w) (hL : LInv w Win.heap.size wb g0 g1 g2 g3 M) (hM : M ≤ 4000000) :
    Calls Tryz.prog 106 #[.pointer (some ⟨wb, 0, none⟩)] w fun e w' => e = .returned (.tuple #[]) ∧ LIn w' Win.heap.size wb g0 g1 g2 g3 (M + 1) ∧ Below Win.heap.size Win w' ∧ KeepO w w' := by
  obtain ⟨iv, tv, rv, sv, ki, kt, ns, Ni, Nt, sbI, TI, rI, sbS, TS, rS, h⟩ := hL
  refine (sets_any w Win.heap.size wb g0 g1 g2 g3 iv tv rv sv _ _ ki kt _ _ _ ns M sbI TI rI sbS TS rS h.blk h.s0 h.si h.ss hW.size (Nat.le_trans h.ms hM)).mono ?_
  rintro e w' ⟨rfl, iv', tv', rv', sv', sbI', TI', rI', sbS', TS', rS', hblk, hI, hS, ht⟩
  refine ⟨rfl, ⟨_, _, _, _, _, _, _, _, _, _, _, _, _, _, _, Nat.succ_pos _, h.more hblk hI hS ht⟩, tch_base hW hW.size ht ?_, keepO_tch ht ?_⟩
  · rintro k (rfl | q | q | q | q)
    · exact h.ge
    · exact (own_block h.si.row q).1
    · exact (own_block h.ss.row q).1
    · exact (own_block h.si.ref q).1
    · exact (own_block h.ss.ref q).1
  · rintro k (rfl | q | q | q | q)
    · exact ⟨_, _, h.blk, by decide⟩
    · obtain ⟨_, _, D, hD⟩ := own_block h.si.row q
      exact ⟨_, _, hD, by decide⟩
    · obtain ⟨_, _, D, hD⟩ := own_block h.ss.row q
      exact ⟨_, _, hD, by decide⟩
    · obtain ⟨_, _, D, hD⟩ := own_block h.si.ref q
      exact ⟨_, _, hD, by decide⟩
    · obtain ⟨_, _, D, hD⟩ := own_block h.ss.ref q
      exact ⟨_, _, hD, by decide⟩

set_option maxRecDepth 100000 in
set_option maxHeartbeats 2000000 in
theorem lists_two (Win w : World) (wb : Nat) (g0 g1 g2 g3 : Value) (Ls : List (List Int)) (Ts : List (List ByteArray)) (M : Nat) (o : Opr) (hW : Below Win.heap.size Win w) (hL : LInv w Win.heap.size wb g0 g1 g2 g3 M) (hG : WI.RdL Win g0 Ls) (hLe : ∀ L ∈ Ls, L.length ≤ 1048576) (hLs : Ls.length ≤ 1048576) (hT : Str.RdL Win g1 Ts) (hTe : ∀ L ∈ Ts, L.length ≤ 1048576) (hTs : Ts.length ≤ 1048576) (ho : OkL o) (hk : o.k = 1 ∨ o.k = 2) (hM : M + 3 ≤ 4000000) :
    Calls Tryz.prog 64 #[.pointer (some ⟨wb, 0, none⟩), oV o] w fun e w' => e = .returned (.bool true) ∧ LInv w' Win.heap.size wb g0 g1 g2 g3 (M + 3) ∧ Below Win.heap.size Win w' ∧ KeepO w w' := by
  have HB1 := hide (below_alloc w (Obj.cells #[.int .i64 o.k, .int .i64 o.A, .int .i64 o.B, .int .i64 o.C, .string o.S, .string o.T] 94))
  have HO := hide (opCells w o.k o.A o.B o.C o.S o.T)
  have HW1 := hide (hW.trans (HB1.out.mono hW.size))
  have C1 := hide (intLists_any Win _ wb g0 g1 g2 g3 Ls M o HW1.out (hL.below HB1.out) hG hLe hLs ho hk (by omega))
  have C2 : Hid (∀ w2, Below Win.heap.size Win w2 → LInv w2 Win.heap.size wb g0 g1 g2 g3 (M + 1) → Calls Tryz.prog 105 #[.pointer (some ⟨wb, 0, none⟩), oV o] w2 fun e w' => e = .returned (.bool true) ∧ LInv w' Win.heap.size wb g0 g1 g2 g3 (M + 1 + 1) ∧ Below Win.heap.size Win w' ∧ KeepO w2 w') := fun w2 h1 h2 => textLists_any Win w2 wb g0 g1 g2 g3 Ts (M + 1) o h1 h2 hT hTe hTs ho hk (by omega)
  obtain ⟨k, A, B, C, S, T⟩ := o
  simp only [oV] at C1 C2 HB1 HO HW1 hk ⊢
  have q3 : k ≤ 2 := by rcases hk with h | h <;> omega
  clear hL hG hLe hLs hT hTe hTs ho hk hW
  go_enter Tryz.func64, Tryz.ntmps64
  go_wp2_with fail
  generalize w.alloc (Obj.cells #[.int .i64 k, .int .i64 A, .int .i64 B, .int .i64 C, .string S, .string T] 94) = w1 at *
  refine C1.out.mono ?_
  rintro e w2 ⟨rfl, hL2, hb2, hk2⟩
  have HL2 := hide hL2
  have HB2 := hide hb2
  have HK2 := hide hk2
  have HO2 := hide ((hk2 _ _ HO.out).trans HO.out)
  obtain ⟨o0, _⟩ := cell_of (j := 0) (u := .int .i64 k) HO2.out rfl
  obtain ⟨o1, _⟩ := cell_of (j := 1) (u := .int .i64 A) HO2.out rfl
  obtain ⟨o2, _⟩ := cell_of (j := 2) (u := .int .i64 B) HO2.out rfl
  obtain ⟨o3, _⟩ := cell_of (j := 3) (u := .int .i64 C) HO2.out rfl
  obtain ⟨o4, _⟩ := cell_of (j := 4) (u := .string S) HO2.out rfl
  obtain ⟨o5, _⟩ := cell_of (j := 5) (u := .string T) HO2.out rfl
  clear hL2 hb2 hk2 C1
  go_wp2_with fail
  refine (C2.out w2 HB2.out HL2.out).mono ?_
  rintro e w3 ⟨rfl, hL3, hb3, hk3⟩
  have HF := hide (And.intro (hL3.mono (show M + 1 + 1 ≤ M + 3 by omega)) (And.intro hb3 (((keepO_below HB1.out).trans HK2.out).trans hk3)))
  clear hL3 hb3 hk3 C2 o0 o1 o2 o3 o4 o5
  go_wp2
  go_ret
  exact ⟨rfl, HF.out⟩

/-- What the two sets' steps make of it, once there are sets. -/
def SetsDo (Win : World) (wb : Nat) (g0 g1 g2 g3 : Value) (o : Opr) : Prop := ∀ (w : World) (M : Nat), M ≤ 4000000 → Below Win.heap.size Win w → LIn w Win.heap.size wb g0 g1 g2 g3 M →
  (Calls Tryz.prog 107 #[.pointer (some ⟨wb, 0, none⟩), oV o] w fun e w' => e = .returned (.bool true) ∧ LIn w' Win.heap.size wb g0 g1 g2 g3 (M + 1) ∧ Below Win.heap.size Win w' ∧ KeepO w w') ∧
  (Calls Tryz.prog 108 #[.pointer (some ⟨wb, 0, none⟩), oV o] w fun e w' => e = .returned (.bool true) ∧ LIn w' Win.heap.size wb g0 g1 g2 g3 (M + 1) ∧ Below Win.heap.size Win w' ∧ KeepO w w')
theorem setsDo (Win : World) (wb : Nat) (g0 g1 g2 g3 : Value) (o : Opr) (ho : OkL o) (hk : o.k = 4 ∨ o.k = 5 ∨ o.k = 6) : SetsDo Win wb g0 g1 g2 g3 o := fun w M hM hW hL => ⟨intSets_any Win w wb g0 g1 g2 g3 M o hW hL ho hk hM, textSets_any Win w wb g0 g1 g2 g3 M o hW hL ho hk hM⟩
theorem len_cell {w : World} {B wb : Nat} {g0 g1 g2 g3 : Value} {M : Nat} (h : LInv w B wb g0 g1 g2 g3 M) : ∃ a n c, w.cell? ⟨wb, 4, none⟩ = some (.slice a n c) ∧ (0 < n → LIn w B wb g0 g1 g2 g3 M) := by
  obtain ⟨iv, tv, rv, sv, ki, kt, ns, Ni, Nt, sbI, TI, rI, sbS, TS, rS, h⟩ := h
  obtain ⟨a, c, e, _, _⟩ := own_slice h.si.row
  exact ⟨a, ns, c, (cell_of (j := 4) (u := .slice a ns c) h.blk (by rw [← e]; rfl)).1, fun q => ⟨_, _, _, _, _, _, _, _, _, _, _, _, _, _, _, q, h⟩⟩

set_option maxRecDepth 100000 in
set_option maxHeartbeats 4000000 in
theorem lists_sets (Win w : World) (wb : Nat) (g0 g1 g2 g3 : Value) (M : Nat) (o : Opr) (hW : Below Win.heap.size Win w) (hL : LInv w Win.heap.size wb g0 g1 g2 g3 M) (ho : OkL o) (hk : 3 ≤ o.k ∧ o.k ≤ 6) (hM : M + 3 ≤ 4000000) :
    Calls Tryz.prog 64 #[.pointer (some ⟨wb, 0, none⟩), oV o] w fun e w' => e = .returned (.bool true) ∧ LInv w' Win.heap.size wb g0 g1 g2 g3 (M + 3) ∧ Below Win.heap.size Win w' ∧ KeepO w w' := by
  have HB1 := hide (below_alloc w (Obj.cells #[.int .i64 o.k, .int .i64 o.A, .int .i64 o.B, .int .i64 o.C, .string o.S, .string o.T] 94))
  have HO := hide (opCells w o.k o.A o.B o.C o.S o.T)
  have HW1 := hide (hW.trans (HB1.out.mono hW.size))
  have HL1 := hide (hL.below HB1.out)
  obtain ⟨la, ln, lc, cl, hpos⟩ := len_cell HL1.out
  have HPOS := hide hpos
  have C1 := hide (setsL_any Win _ wb g0 g1 g2 g3 M HW1.out HL1.out (by omega))
  have C2 : Hid (o.k ≠ 3 → SetsDo Win wb g0 g1 g2 g3 o) := fun q => setsDo Win wb g0 g1 g2 g3 o ho (by omega)
  unfold SetsDo at C2
  obtain ⟨k, A, B, C, S, T⟩ := o
  simp only [oV] at C1 C2 HB1 HO HW1 HL1 HPOS cl hk ⊢
  obtain ⟨hk1, hk2⟩ := hk
  have q3 : ¬ k ≤ 2 := by omega
  clear hL ho hW hpos
  by_cases e3 : k = 3
  · subst e3
    clear C2
    by_cases l0 : ln = 0
    · subst l0
      go_enter Tryz.func64, Tryz.ntmps64
      go_wp2_with fail
      refine C1.out.mono ?_
      rintro e w2 ⟨rfl, hL2, hb2, hk2⟩
      have HF := hide (And.intro (hL2.inv.mono (show M + 1 ≤ M + 3 by omega)) (And.intro hb2 ((keepO_below HB1.out).trans hk2)))
      have HO2 := hide ((hk2 _ _ HO.out).trans HO.out)
      obtain ⟨o0, _⟩ := cell_of (j := 0) (u := .int .i64 3) HO2.out rfl
      clear hL2 hb2 hk2 C1
      go_wp2
      go_ret
      exact ⟨rfl, HF.out⟩
    · go_enter Tryz.func64, Tryz.ntmps64
      go_wp2_with fail
      refine C1.out.mono ?_
      rintro e w2 ⟨rfl, hL2, hb2, hk2⟩
      have HF := hide (And.intro (hL2.inv.mono (show M + 1 ≤ M + 3 by omega)) (And.intro hb2 ((keepO_below HB1.out).trans hk2)))
      have HO2 := hide ((hk2 _ _ HO.out).trans HO.out)
      obtain ⟨o0, _⟩ := cell_of (j := 0) (u := .int .i64 3) HO2.out rfl
      clear hL2 hb2 hk2 C1
      go_wp2
      go_ret
      exact ⟨rfl, HF.out⟩
  · have e3' : (k == 3) = false := by simpa using e3
    have CC := hide (C2.out e3)
    clear C2
    by_cases l0 : ln = 0
    · subst l0
      go_enter Tryz.func64, Tryz.ntmps64
      go_wp2_with fail
      refine C1.out.mono ?_
      rintro e w2 ⟨rfl, hL2, hb2, hk2⟩
      have HK2 := hide hk2
      have HO2 := hide ((hk2 _ _ HO.out).trans HO.out)
      obtain ⟨D1, _⟩ := CC.out w2 (M + 1) (by omega) hb2 hL2
      have D1H := hide D1
      obtain ⟨o0, _⟩ := cell_of (j := 0) (u := .int .i64 k) HO2.out rfl
      obtain ⟨o1, _⟩ := cell_of (j := 1) (u := .int .i64 A) HO2.out rfl
      obtain ⟨o2, _⟩ := cell_of (j := 2) (u := .int .i64 B) HO2.out rfl
      obtain ⟨o3, _⟩ := cell_of (j := 3) (u := .int .i64 C) HO2.out rfl
      obtain ⟨o4, _⟩ := cell_of (j := 4) (u := .string S) HO2.out rfl
      obtain ⟨o5, _⟩ := cell_of (j := 5) (u := .string T) HO2.out rfl
      clear hL2 hb2 hk2 C1 D1
      go_wp2_with fail
      refine D1H.out.mono ?_
      rintro e w3 ⟨rfl, hL3, hb3, hk3⟩
      have HK3 := hide (HK2.out.trans hk3)
      have HO3 := hide ((hk3 _ _ HO2.out).trans HO2.out)
      obtain ⟨_, D2⟩ := CC.out w3 (M + 1 + 1) (by omega) hb3 hL3
      have D2H := hide D2
      obtain ⟨p0, _⟩ := cell_of (j := 0) (u := .int .i64 k) HO3.out rfl
      obtain ⟨p1, _⟩ := cell_of (j := 1) (u := .int .i64 A) HO3.out rfl
      obtain ⟨p2, _⟩ := cell_of (j := 2) (u := .int .i64 B) HO3.out rfl
      obtain ⟨p3, _⟩ := cell_of (j := 3) (u := .int .i64 C) HO3.out rfl
      obtain ⟨p4, _⟩ := cell_of (j := 4) (u := .string S) HO3.out rfl
      obtain ⟨p5, _⟩ := cell_of (j := 5) (u := .string T) HO3.out rfl
      clear hL3 hb3 hk3 D1H D2 o0 o1 o2 o3 o4 o5
      go_wp2_with fail
      refine D2H.out.mono ?_
      rintro e w4 ⟨rfl, hL4, hb4, hk4⟩
      have HF := hide (And.intro hL4.inv (And.intro hb4 (((keepO_below HB1.out).trans HK3.out).trans hk4)))
      clear hL4 hb4 hk4 D2H p0 p1 p2 p3 p4 p5
      go_wp2
      go_ret
      exact ⟨rfl, HF.out⟩
    · have HLN := hide (HPOS.out (by omega))
      obtain ⟨D1, _⟩ := CC.out _ M (by omega) HW1.out HLN.out
      have D1H := hide D1
      clear D1 C1
      go_enter Tryz.func64, Tryz.ntmps64
      go_wp2_with fail
      refine D1H.out.mono ?_
      rintro e w3 ⟨rfl, hL3, hb3, hk3⟩
      have HK3 := hide hk3
      have HO3 := hide ((hk3 _ _ HO.out).trans HO.out)
      obtain ⟨_, D2⟩ := CC.out w3 (M + 1) (by omega) hb3 hL3
      have D2H := hide D2
      obtain ⟨p0, _⟩ := cell_of (j := 0) (u := .int .i64 k) HO3.out rfl
      obtain ⟨p1, _⟩ := cell_of (j := 1) (u := .int .i64 A) HO3.out rfl
      obtain ⟨p2, _⟩ := cell_of (j := 2) (u := .int .i64 B) HO3.out rfl
      obtain ⟨p3, _⟩ := cell_of (j := 3) (u := .int .i64 C) HO3.out rfl
      obtain ⟨p4, _⟩ := cell_of (j := 4) (u := .string S) HO3.out rfl
      obtain ⟨p5, _⟩ := cell_of (j := 5) (u := .string T) HO3.out rfl
      clear hL3 hb3 hk3 D1H D2
      go_wp2_with fail
      refine D2H.out.mono ?_
      rintro e w4 ⟨rfl, hL4, hb4, hk4⟩
      have HF := hide (And.intro (hL4.inv.mono (show M + 1 + 1 ≤ M + 3 by omega)) (And.intro hb4 (((keepO_below HB1.out).trans HK3.out).trans hk4)))
      clear hL4 hb4 hk4 D2H p0 p1 p2 p3 p4 p5
      go_wp2
      go_ret
      exact ⟨rfl, HF.out⟩
end Go.Proofs.YtkncboinfcnklaaGreatDoor

namespace Go.Proofs.YtkncboinfcnklaaGreatDoor
open Go.RowKit Go.Deep Go.Proofs.YtkncboinfcnklaaGreatDoor.Mth

theorem lists_any (Win w : World) (wb : Nat) (g0 g1 g2 g3 : Value) (Ls : List (List Int)) (Ts : List (List ByteArray)) (M : Nat) (o : Opr) (hW : Below Win.heap.size Win w) (hL : LInv w Win.heap.size wb g0 g1 g2 g3 M) (hG : WI.RdL Win g0 Ls) (hLe : ∀ L ∈ Ls, L.length ≤ 1048576) (hLs : Ls.length ≤ 1048576) (hT : Str.RdL Win g1 Ts) (hTe : ∀ L ∈ Ts, L.length ≤ 1048576) (hTs : Ts.length ≤ 1048576) (ho : OkL o) (hk : 1 ≤ o.k ∧ o.k ≤ 6) (hM : M + 3 ≤ 4000000) :
    Calls Tryz.prog 64 #[.pointer (some ⟨wb, 0, none⟩), oV o] w fun e w' => e = .returned (.bool true) ∧ LInv w' Win.heap.size wb g0 g1 g2 g3 (M + 3) ∧ Below Win.heap.size Win w' ∧ KeepO w w' := by
  by_cases q : o.k ≤ 2
  · exact lists_two Win w wb g0 g1 g2 g3 Ls Ts M o hW hL hG hLe hLs hT hTe hTs ho (by omega) hM
  · exact lists_sets Win w wb g0 g1 g2 g3 M o hW hL ho (by omega) hM

set_option maxRecDepth 100000 in
set_option maxHeartbeats 1000000 in
theorem stepL_any (Win w : World) (wb : Nat) (g0 g1 g2 g3 : Value) (Ls : List (List Int)) (Ts : List (List ByteArray)) (M : Nat) (o : Opr) (hW : Below Win.heap.size Win w) (hL : LInv w Win.heap.size wb g0 g1 g2 g3 M) (hG : WI.RdL Win g0 Ls) (hLe : ∀ L ∈ Ls, L.length ≤ 1048576) (hLs : Ls.length ≤ 1048576) (hT : Str.RdL Win g1 Ts) (hTe : ∀ L ∈ Ts, L.length ≤ 1048576) (hTs : Ts.length ≤ 1048576) (ho : OkL o) (hk : 1 ≤ o.k ∧ o.k ≤ 6) (hM : M + 3 ≤ 4000000) :
    Calls Tryz.prog 29 #[.pointer (some ⟨wb, 0, none⟩), oV o] w fun e w' => e = .returned (.bool true) ∧ LInv w' Win.heap.size wb g0 g1 g2 g3 (M + 3) ∧ Below Win.heap.size Win w' ∧ KeepO w w' := by
  have HB1 := hide (below_alloc w (Obj.cells #[.int .i64 o.k, .int .i64 o.A, .int .i64 o.B, .int .i64 o.C, .string o.S, .string o.T] 94))
  have CS := hide (lists_any Win _ wb g0 g1 g2 g3 Ls Ts M o (hW.trans (HB1.out.mono hW.size)) (hL.below HB1.out) hG hLe hLs hT hTe hTs ho hk hM)
  clear hW hL hG hLe hLs hT hTe hTs ho
  obtain ⟨k, A, B, C, S, T⟩ := o
  obtain ⟨hk1, hk2⟩ := hk
  simp only [oV] at CS hk1 hk2 ⊢
  have q1 : ¬ k < 1 := by omega
  have q2 : ¬ 22 < k := by omega
  go_enter Tryz.func29, Tryz.ntmps29
  go_wp2_with fail
  refine CS.out.mono ?_
  rintro e w' ⟨rfl, h1, h2, h3⟩
  have HF := hide (And.intro h1 (And.intro h2 ((keepO_below HB1.out).trans h3)))
  clear h1 h2 h3 CS
  go_wp2
  go_ret
  exact ⟨rfl, HF.out⟩

/-- The law's world as it is made. -/
theorem LInv.new (w : World) (g0 g1 g2 g3 : Value) (h0 : ∃ a n c, g0 = .slice a n c) : LInv (w.alloc (Obj.cells #[g0, g1, g2, g3, .slice none 0 0, .slice none 0 0, .slice none 0 0, .slice none 0 0, .slice none 0 0, .slice none 0 0, .slice none 0 0, .slice none 0 0, .slice none 0 0, .slice none 0 0, .slice none 0 0] 91)) w.heap.size w.heap.size g0 g1 g2 g3 0 := by
  refine ⟨.slice none 0 0, .slice none 0 0, .slice none 0 0, .slice none 0 0, .slice none 0 0, .slice none 0 0, 0, 0, 0, fun _ => 0, fun _ => .nil, fun _ => .slice none 0 0, fun _ => 0, fun _ => .nil, fun _ => .slice none 0 0, newB w _ _, Nat.le_refl _, h0, Book.nil _ _ _ _ _ _, Book.nil _ _ _ _ _ _, fun _ => rfl, fun _ => rfl, ?_, ?_, Nat.le_refl _, Nat.le_refl _, Nat.le_refl _⟩
  · exact ⟨World.ownsRow_nil _ _ _ _, World.ownsRow_nil _ _ _ _, fun i hi => absurd hi (Nat.not_lt_zero _), fun i hi => absurd hi (Nat.not_lt_zero _), fun i hi => absurd hi (Nat.not_lt_zero _), fun i hi => absurd hi (Nat.not_lt_zero _), fun i hi => absurd hi (Nat.not_lt_zero _), fun i _ hi => absurd hi (Nat.not_lt_zero _), fun _ => ⟨rfl, rfl⟩⟩
  · exact ⟨World.ownsRow_nil _ _ _ _, World.ownsRow_nil _ _ _ _, fun i hi => absurd hi (Nat.not_lt_zero _), fun i hi => absurd hi (Nat.not_lt_zero _), fun i hi => absurd hi (Nat.not_lt_zero _), fun i hi => absurd hi (Nat.not_lt_zero _), fun i hi => absurd hi (Nat.not_lt_zero _), fun i _ hi => absurd hi (Nat.not_lt_zero _), fun _ => ⟨rfl, rfl⟩⟩

/-- All lists that came out are looked at. -/
theorem wholeL_any (w : World) (B wb : Nat) (g0 g1 g2 g3 : Value) (M : Nat) (h : LInv w B wb g0 g1 g2 g3 M) (hM : M ≤ 4194304) : Calls Tryz.prog 30 #[.pointer (some ⟨wb, 9, none⟩)] w fun e w' => e = .returned (.bool true) ∧ Below w.heap.size w w' := by
  obtain ⟨iv, tv, rv, sv, ki, kt, ns, Ni, Nt, sbI, TI, rI, sbS, TS, rS, h⟩ := h
  refine wholeAll_any w B wb g0 g1 g2 g3 iv tv rv sv _ _ ki kt _ _ _ 0 Ni Nt 0 0 0 h.blk ⟨Book.nil _ _ _ _ _ _, h.bi, h.bt, Book.nil _ _ _ _ _ _, Book.nil _ _ _ _ _ _, ⟨fun i _ => .slice none (i + 1) 0, fun i _ => ⟨_, _, rfl⟩, Book.nil _ _ _ _ _ _⟩⟩ (Nat.zero_le _) (Nat.le_trans h.mi hM) (Nat.le_trans h.mt hM) (Nat.zero_le _) (Nat.zero_le _) (Nat.zero_le _)
end Go.Proofs.YtkncboinfcnklaaGreatDoor
