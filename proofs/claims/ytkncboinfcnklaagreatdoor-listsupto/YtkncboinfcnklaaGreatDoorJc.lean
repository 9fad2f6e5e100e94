import Derived.Test.YtkncboinfcnklaaGreatDoorJa
import Derived.Test.YtkncboinfcnklaaGreatDoorIa
import Derived.Test.YtkncboinfcnklaaGreatDoorD1
namespace Go.Proofs.YtkncboinfcnklaaGreatDoor.Str
open Go.RowKit Go.Deep Go.Proofs.YtkncboinfcnklaaGreatDoor.Mth

/-- What is put into a list, one behind the other. -/
def pf (l : List ByteArray) : List ByteArray := l.foldl (fun acc x => putS x acc) []
theorem pf_snoc (l : List ByteArray) (x : ByteArray) : pf (l ++ [x]) = putS x (pf l) := by simp [pf]
theorem pf_all (l : List ByteArray) : (pf l).Pairwise ltS ∧ (∀ z, z ∈ pf l ↔ z ∈ l) ∧ (pf l).length ≤ l.length := by
  have key : ∀ (n : Nat) (m : List ByteArray), m.length = n → (pf m).Pairwise ltS ∧ (∀ z, z ∈ pf m ↔ z ∈ m) ∧ (pf m).length ≤ m.length := by
    intro n
    induction n with
    | zero =>
      intro m hm
      have : m = [] := List.length_eq_zero_iff.1 hm
      subst this
      simp [pf]
    | succ n ih =>
      intro m hm
      have hne : m ≠ [] := fun c => by subst c; simp at hm
      rw [← List.dropLast_concat_getLast hne, pf_snoc]
      obtain ⟨h1, h2, h3⟩ := ih m.dropLast (by simp; omega)
      refine ⟨putS_up _ _ h1, fun z => ?_, ?_⟩
      · rw [putS_mem, h2]
        simp [or_comm]
      · have := putS_len (m.getLast hne) (pf m.dropLast)
        simp only [List.length_append, List.length_singleton]
        omega
  exact key _ l rfl
theorem pf_merged (l : List ByteArray) : pf l = mergedS l := mergedS_ext (pf_all l).1 (pf_all l).2.1
theorem pf_filter (A B : List ByteArray) : pf (A.filter (fun z => memD z B)) = (mergedS A).filter (fun z => memD z (mergedS B)) := by
  refine up_ext sordS.irr sordS.tr (pf_all _).1 ((mergedS_up A).1.filter _) fun x => ?_
  rw [(pf_all _).2.1, List.mem_filter, List.mem_filter, (mergedS_up A).2]
  have := (mergedS_up B).2 x
  simp only [memD_iff, this]
theorem one_le {Ls : List (List ByteArray)} {L : List ByteArray} (hLe : ∀ L ∈ Ls, L.length ≤ 1048576) (h : OneOf Ls L) : L.length ≤ 1048576 := by
  rcases h with rfl | h
  · simp
  · exact hLe L h
theorem cur_on {w0 w w' : World} {v : Value} {l : List ByteArray} (h : Cur w0 w v l) (hb : Below w.heap.size w w') : Cur w0 w' v l := ⟨h.1.trans (hb.mono h.1.size), own_same h.2 (fun _ hg => hb.block _ (own_block h.2 hg).2.1)⟩
theorem rdL_three {w : World} {va vb vc : Value} {A B C : List ByteArray} (hA : Rd w va A) (hB : Rd w vb B) (hC : Rd w vc C) : RdL (w.alloc (.cells #[va, vb, vc] 58)) (.slice (some ⟨w.heap.size, 0, none⟩) 3 3) [A, B, C] := by
  have b := below_alloc w (.cells #[va, vb, vc] 58)
  refine ⟨_, 3, rfl, by simp, by unfold maxLen; omega, Or.inr ⟨w.heap.size, 0, rfl, fun i hi => ?_⟩⟩
  match i, hi with
  | 0, _ => exact ⟨va, by simp, by simpa using hA.below b⟩
  | 1, _ => exact ⟨vb, by simp, by simpa using hB.below b⟩
  | 2, _ => exact ⟨vc, by simp, by simpa using hC.below b⟩
theorem get3 {A B C : List ByteArray} {k : Nat} (z : ByteArray) : (k < A.length → (A ++ B ++ C).getD k z = A.getD k z) ∧ (A.length ≤ k → k < A.length + B.length → (A ++ B ++ C).getD k z = B.getD (k - A.length) z) ∧ (A.length + B.length ≤ k → (A ++ B ++ C).getD k z = C.getD (k - A.length - B.length) z) := by
  refine ⟨fun h => ?_, fun h1 h2 => ?_, fun h => ?_⟩
  · rw [List.append_assoc, List.getD, List.getD, List.getElem?_append_left h]
  · rw [List.getD, List.getD, List.getElem?_append_left (by simp; omega), List.getElem?_append_right h1]
  · rw [List.getD, List.getD, List.getElem?_append_right (by simp; omega), List.length_append, Nat.sub_sub]
theorem take_one {l : List ByteArray} {k : Nat} (h : k < l.length) (z : ByteArray) : l.take (k + 1) = l.take k ++ [l.getD k z] := by
  rw [List.take_succ_eq_append_getElem h]
  simp [List.getD, h]

set_option maxRecDepth 100000 in
set_option maxHeartbeats 8000000 in
theorem merge_step (Win w : World) (wb : Nat) (gv kv : Value) (Ls : List (List ByteArray)) (N : Nat) (xs : List Value) (C : Array Value) (A Bv Cv : Int) (S T : ByteArray) (hW : Below Win.heap.size Win w) (hblk : w.heap[wb]? = some (Obj.cells C 91 (0, 0))) (hcs : C.size = 15) (hc0 : C[1]? = some gv) (hck : C[11]? = some kv) (hge : Win.heap.size ≤ wb) (hG : RdL Win gv Ls) (hLe : ∀ L ∈ Ls, L.length ≤ 1048576) (hLs : Ls.length ≤ 1048576) (hrow : w.ownsRow Win.heap.size 166 5 kv N xs) (hN : N ≤ 4000000) (hA0 : -9223372036854775808 ≤ A) (hA1 : A < 9223372036854775808) (hB0' : -9223372036854775808 ≤ Bv) (hB1' : Bv < 9223372036854775808) (hC0' : -9223372036854775808 ≤ Cv) (hC1' : Cv < 9223372036854775808) :
    Calls Tryz.prog 105 #[.pointer (some ⟨wb, 0, none⟩), .agg #[.int .i64 1, .int .i64 A, .int .i64 Bv, .int .i64 Cv, .string S, .string T]] w fun e w' => e = .returned (.bool true) ∧ ∃ kv' Q n, n + 3 ≤ 4194304 ∧ Aft w w' Win.heap.size wb 11 166 9 1 (fT N) kv kv' N xs C Q n := by
  have hwl : wb < w.heap.size := (Array.getElem?_eq_some_iff.1 hblk).1
  have hsw := hW.size
  have HO := hide (opCells w 1 A Bv Cv S T)
  have HB1 := hide (below_alloc w (Obj.cells #[.int .i64 1, .int .i64 A, .int .i64 Bv, .int .i64 Cv, .string S, .string T] 94))
  have hlt1 : w.heap.size < (w.alloc (Obj.cells #[.int .i64 1, .int .i64 A, .int .i64 Bv, .int .i64 Cv, .string S, .string T] 94)).heap.size := by simp
  have HW := hide hW
  have HG := hide hG
  have HBLK := hide hblk
  have HC0 := hide hc0
  have HCK := hide hck
  have HCS := hide hcs
  have HROW := hide hrow
  have HLE := hide hLe
  clear hW hG hblk hc0 hck hrow hLe
  go_enter Tryz.func105, Tryz.ntmps105
  go_wp2_with fail
  generalize w.alloc (Obj.cells #[.int .i64 1, .int .i64 A, .int .i64 Bv, .int .i64 Cv, .string S, .string T] 94) = w1 at *
  have HW1 := hide (HW.out.trans (HB1.out.mono hsw))
  have hs1 := HB1.out.size
  refine (of_any Win w1 wb gv Ls C A HW1.out ((HB1.out.block wb hwl).trans HBLK.out) HC0.out HG.out hA0 hA1 hLs).mono ?_
  rintro e w2 ⟨va, LA, rfl, hb2, hra, ha⟩
  have HRA := hide hra
  have hla := one_le HLE.out ha
  obtain ⟨aa, ca, rfl, hca, hcma⟩ := rd_len hra
  unfold maxLen at hcma
  have HB2 := hide (HB1.out.trans (hb2.mono hs1))
  have hs2 := hb2.size
  have HO2 := hide ((hb2.block w.heap.size hlt1).trans HO.out)
  have cB := (cell_of (j := 2) (u := .int .i64 Bv) HO2.out rfl).1
  clear hb2 hra ha
  go_wp2_with fail
  have HW2 := hide (HW.out.trans (HB2.out.mono hsw))
  refine (of_any Win w2 wb gv Ls C Bv HW2.out ((HB2.out.block wb hwl).trans HBLK.out) HC0.out HG.out hB0' hB1' hLs).mono ?_
  rintro e w3 ⟨vb, LB', rfl, hb3, hrb, hb⟩
  have HRB := hide hrb
  have hlb := one_le HLE.out hb
  obtain ⟨ab, cb, rfl, hcb, hcmb⟩ := rd_len hrb
  unfold maxLen at hcmb
  have HB3 := hide (HB2.out.trans (hb3.mono (by omega)))
  have hs3 := hb3.size
  have HO3 := hide ((hb3.block w.heap.size (by omega)).trans HO2.out)
  have cC := (cell_of (j := 3) (u := .int .i64 Cv) HO3.out rfl).1
  clear hb3 hrb hb cB
  go_wp2_with fail
  have HW3 := hide (HW.out.trans (HB3.out.mono hsw))
  refine (of_any Win w3 wb gv Ls C Cv HW3.out ((HB3.out.block wb hwl).trans HBLK.out) HC0.out HG.out hC0' hC1' hLs).mono ?_
  rintro e w4 ⟨vc, LC, rfl, hb4, hrc, hc⟩
  have HRC := hide hrc
  have hlc := one_le HLE.out hc
  obtain ⟨ac, cc, rfl, hcc, hcmc⟩ := rd_len hrc
  unfold maxLen at hcmc
  have HB4 := hide (HB3.out.trans (hb4.mono (by omega)))
  have hs4 := hb4.size
  have HO4 := hide ((hb4.block w.heap.size (by omega)).trans HO3.out)
  clear hb4 hrc hc cC
  go_wp2_with fail
  have HW4 := hide (HW.out.trans (HB4.out.mono hsw))
  refine (lent_both w4 _ LA (HRA.out.below HW4.out) (by omega)).mono ?_
  rintro e w5 ⟨xa, xn, xc, rfl, hb5, hx5, hl5⟩
  have HX := hide hx5
  have HLX := hide hl5
  have HB5 := hide (HB4.out.trans (hb5.mono (by omega)))
  have hs5 := hb5.size
  have HO5 := hide ((hb5.block w.heap.size (by omega)).trans HO4.out)
  clear hb5 hx5 hl5
  go_wp2_with fail
  have HW5 := hide (HW.out.trans (HB5.out.mono hsw))
  refine (lent_both w5 _ LB' (HRB.out.below HW5.out) (by omega)).mono ?_
  rintro e w6 ⟨ya, yn, yc, rfl, hb6, hx6, hl6⟩
  have HX6 := hide (HX.out.below hb6)
  have HLX6 := hide (HLX.out.below hb6)
  have HY := hide hx6
  have HLY := hide hl6
  have HB6 := hide (HB5.out.trans (hb6.mono (by omega)))
  have hs6 := hb6.size
  have HO6 := hide ((hb6.block w.heap.size (by omega)).trans HO5.out)
  clear hb6 hx6 hl6 HX HLX
  go_wp2_with fail
  have HW6 := hide (HW.out.trans (HB6.out.mono hsw))
  refine (lent_both w6 _ LC (HRC.out.below HW6.out) (by omega)).mono ?_
  rintro e w7 ⟨za, zn, zc, rfl, hb7, hx7, hl7⟩
  have HX7 := hide (HX6.out.below hb7)
  have HLX7 := hide (HLX6.out.below hb7)
  have HY7 := hide (HY.out.below hb7)
  have HLY7 := hide (HLY.out.below hb7)
  have HZ7 := hide hx7
  have HLZ7 := hide hl7
  have HB7 := hide (HB6.out.trans (hb7.mono (by omega)))
  have hs7 := hb7.size
  have HO7 := hide ((hb7.block w.heap.size (by omega)).trans HO6.out)
  have cK := (cell_of (j := 0) (u := .int .i64 1) HO7.out rfl).1
  have HW7 := hide (HW.out.trans (HB7.out.mono hsw))
  clear hb7 hx7 hl7 HX6 HLX6 HY HLY
  have CM := hide (merge_any (rdL_three HX7.out HY7.out HZ7.out) (by simp; omega))
  have HBM := hide (below_alloc w7 (Obj.cells #[.slice xa xn xc, .slice ya yn yc, .slice za zn zc] 58))
  go_wp2_with fail
  clear cK
  generalize w7.alloc (Obj.cells #[.slice xa xn xc, .slice ya yn yc, .slice za zn zc] 58) = wm at *
  have hsm := HBM.out.size
  refine CM.out.mono ?_
  rintro e w8 ⟨lv, rfl, hc8⟩
  have HC8 := hide hc8
  have hs8 := hc8.1.size
  have HB8 := hide ((HB7.out.trans (HBM.out.mono (by omega))).trans (hc8.1.mono (by omega)))
  have HW8 := hide (HW.out.trans (HB8.out.mono hsw))
  have HLX8 := hide ((HLX7.out.below HBM.out).below hc8.1)
  have HLY8 := hide ((HLY7.out.below HBM.out).below hc8.1)
  have HLZ8 := hide ((HLZ7.out.below HBM.out).below hc8.1)
  obtain ⟨lva, lvc, rfl, _, _⟩ := own_slice hc8.2
  generalize hln : (mergedS [LA, LB', LC].flatten).length = ln at *
  clear hln
  clear hc8 CM HX7 HY7 HZ7 HLX7 HLY7 HLZ7
  have HGET := hide (fun k => get3 (A := LA) (B := LB') (C := LC) (k := k) ByteArray.empty)
  have HTK := hide (fun k h => take_one (l := LA ++ LB' ++ LC) (k := k) h ByteArray.empty)
  have HPF := hide (fun k => (pf_all ((LA ++ LB' ++ LC).take k)).2.2)
  have HSN := hide (fun k x => pf_snoc ((LA ++ LB' ++ LC).take k) x)
  have HEND := hide (pf_merged (LA ++ LB' ++ LC))
  have HFL : Hid ([LA, LB', LC].flatten = LA ++ LB' ++ LC) := by show _ = _; simp [List.append_assoc]
  have HML := hide ((mergedS_len (LA ++ LB' ++ LC)))
  have HLEN : Hid ((LA ++ LB' ++ LC).length = LA.length + LB'.length + LC.length) := by
    show _ = _
    rw [List.length_append, List.length_append]
  go_wp2_with fail
  generalize hM : LA ++ LB' ++ LC = M at *
  clear hM
  generalize hna : LA.length = na at *
  generalize hnb : LB'.length = nb at *
  generalize hnc : LC.length = nc at *
  have HNA := hide hna
  have HNB := hide hnb
  have HNC := hide hnc
  clear hna hnb hnc
  go_loopw [12, 13] (fun wv i wr => ∃ k : Nat, k ≤ na + nb + nc ∧ i = .int .i64 k ∧ Below w8.heap.size w8 wr ∧ Rd wr wv (pf (M.take k))) (fun _ i _ => na + nb + nc - (intOf i).toNat)
  case atStart => exact ⟨0, Nat.zero_le _, rfl, Below.refl _ _, by simpa [pf] using Rd.nil _⟩
  case round =>
    obtain ⟨k, hk, rfl, hb, hrw⟩ := hrel
    have HBR0 := hide hb
    have HRW := hide hrw
    have hsr := hb.size
    have HWR := hide (HW8.out.trans (hb.mono HW8.out.size))
    obtain ⟨wa, wc, rfl, _, _⟩ := rd_len hrw
    clear hb hrw
    by_cases hlt : k < na + nb + nc
    · have hpl := HPF.out k
      rw [List.length_take] at hpl
      obtain ⟨ga, gb, gc⟩ := HGET.out k
      have HT1 := hide (HTK.out k (by rw [HLEN.out]; exact hlt))
      have HS1 := hide (HSN.out k)
      by_cases c1 : k < na
      · obtain ⟨b, o, rfl, _, cell⟩ := rd_at (HRA.out.below HWR.out) k (by rw [HNA.out]; exact c1)
        have e1 := ga c1
        rw [← e1] at cell
        generalize M.getD k ByteArray.empty = x at *
        clear ga gb gc e1
        have CP := hide (putText_any x HRW.out (by omega))
        generalize (pf (M.take k)).length = wn at *
        go_wp2_with fail
        refine CP.out.mono ?_
        rintro e w9 ⟨v', rfl, hb9, hr9⟩
        have HB9 := hide (HBR0.out.trans (hb9.mono HBR0.out.size))
        have HR9 : Hid (Rd w9 v' (pf (M.take (k + 1)))) := by
          show Rd _ _ _
          rw [HT1.out, HS1.out]
          exact hr9
        clear hb9 hr9 CP cell
        go_wp2
        go_roundw
        case rel => exact ⟨k + 1, by omega, by go_num, HB9.out, HR9.out⟩
        case measure => simp [intOf]; omega
      · by_cases c2 : k < na + nb
        · obtain ⟨b, o, rfl, _, cell⟩ := rd_at (HRB.out.below HWR.out) (k - na) (by rw [HNB.out]; omega)
          have e1 := gb (by omega) c2
          rw [← e1] at cell
          generalize M.getD k ByteArray.empty = x at *
          clear ga gb gc e1
          have CP := hide (putText_any x HRW.out (by omega))
          generalize (pf (M.take k)).length = wn at *
          have q1 : ((k : Int) - (na : Int)).toNat = k - na := by omega
          go_wp2_with fail
          refine CP.out.mono ?_
          rintro e w9 ⟨v', rfl, hb9, hr9⟩
          have HB9 := hide (HBR0.out.trans (hb9.mono HBR0.out.size))
          have HR9 : Hid (Rd w9 v' (pf (M.take (k + 1)))) := by
            show Rd _ _ _
            rw [HT1.out, HS1.out]
            exact hr9
          clear hb9 hr9 CP cell
          go_wp2
          go_roundw
          case rel => exact ⟨k + 1, by omega, by go_num, HB9.out, HR9.out⟩
          case measure => simp [intOf]; omega
        · obtain ⟨b, o, rfl, _, cell⟩ := rd_at (HRC.out.below HWR.out) (k - na - nb) (by rw [HNC.out]; omega)
          have e1 := gc (by omega)
          rw [← e1] at cell
          generalize M.getD k ByteArray.empty = x at *
          clear ga gb gc e1
          have CP := hide (putText_any x HRW.out (by omega))
          generalize (pf (M.take k)).length = wn at *
          have q1 : ((k : Int) - (na : Int) - (nb : Int)).toNat = k - na - nb := by omega
          go_wp2_with fail
          refine CP.out.mono ?_
          rintro e w9 ⟨v', rfl, hb9, hr9⟩
          have HB9 := hide (HBR0.out.trans (hb9.mono HBR0.out.size))
          have HR9 : Hid (Rd w9 v' (pf (M.take (k + 1)))) := by
            show Rd _ _ _
            rw [HT1.out, HS1.out]
            exact hr9
          clear hb9 hr9 CP cell
          go_wp2
          go_roundw
          case rel => exact ⟨k + 1, by omega, by go_num, HB9.out, HR9.out⟩
          case measure => simp [intOf]; omega
    · have hke : k = na + nb + nc := by omega
      have HWT : Hid (Rd wr (.slice wa (pf (M.take k)).length wc) (mergedS M)) := by
        have e : pf (M.take k) = mergedS M := by rw [List.take_of_length_le (by rw [HLEN.out]; omega), HEND.out]
        have := HRW.out
        rw [e] at this
        rw [e]
        exact this
      have HCV : Hid (Cur wm wr (.slice lva ln lvc) (mergedS M)) := by
        have := cur_on HC8.out HBR0.out
        rw [HFL.out] at this
        exact this
      have HBR := hide (HB8.out.trans (HBR0.out.mono (by omega)))
      have HLXR := hide (HLX8.out.below HBR0.out)
      have HLYR := hide (HLY8.out.below HBR0.out)
      have HLZR := hide (HLZ8.out.below HBR0.out)
      have hml := HML.out
      rw [HLEN.out] at hml
      generalize (pf (M.take k)).length = wn at *
      go_wp2_with fail
      refine (sameTexts_any (cur_rd HCV.out) HWT.out).mono ?_
      rintro e w9 ⟨rfl, hb9⟩
      have HC9 := hide (cur_on HCV.out hb9)
      have HB9 := hide (HBR.out.trans (hb9.mono (by omega)))
      have hs9 := hb9.size
      have HLX9 := hide (HLXR.out.below hb9)
      have HLY9 := hide (HLYR.out.below hb9)
      have HLZ9 := hide (HLZR.out.below hb9)
      clear hb9
      have HBW9 := hide ((HB9.out.block wb hwl).trans HBLK.out)
      have HRW9 := hide (own_same HROW.out (fun g hg => HB9.out.block g (own_block HROW.out hg).2.1))
      have CK := hide (keepTexts2_any w9 wm.heap.size wb Win.heap.size _ kv _ N _ xs C HC9.out.2 (by omega) (by omega) HBW9.out HCS.out HCK.out HRW9.out (fun g hg => by have := (own_block HROW.out hg).2.1; omega) (by omega) (by omega) (by omega))
      go_wp2_with fail
      refine CK.out.mono ?_
      rintro e wk ⟨rfl, tv', va', vb', vc', hK, hKB⟩
      have HA6 := hide (aft_of HB9.out (by omega) hK)
      have HKB := hide hKB
      have HLXK := hide (HLX9.out.keep fun g D h1 h2 hD => (kept_at hK (by omega) hD HBW9.out HRW9.out (by decide) (by decide)).trans hD.symm)
      have HLYK := hide (HLY9.out.keep fun g D h1 h2 hD => (kept_at hK (by omega) hD HBW9.out HRW9.out (by decide) (by decide)).trans hD.symm)
      have HLZK := hide (HLZ9.out.keep fun g D h1 h2 hD => (kept_at hK (by omega) hD HBW9.out HRW9.out (by decide) (by decide)).trans hD.symm)
      clear hK hKB CK
      have HWK := hide (HW.out.trans (HA6.out.frame hge HROW.out hsw))
      go_wp2_with fail
      refine (whole_both HLXK.out (by rw [HNA.out]; exact hla) HRA.out HWK.out (by omega)).mono ?_
      rintro e u1 ⟨rfl, hw1⟩
      have HA7 := hide (HA6.out.wrt hw1 (by omega) (show w5.heap.size ≤ wm.heap.size by omega) HKB.out (by decide) (by decide))
      have HLY1 := hide (HLYK.out.wrt hw1 (Or.inr (Nat.le_refl _)))
      have HLZ1 := hide (HLZK.out.wrt hw1 (Or.inr (by omega)))
      have HWU1 := hide (HW.out.trans (HA7.out.frame hge HROW.out hsw))
      clear hw1
      go_wp2_with fail
      refine (whole_both HLY1.out (by rw [HNB.out]; exact hlb) HRB.out HWU1.out (by omega)).mono ?_
      rintro e u2 ⟨rfl, hw2⟩
      have HA8 := hide (HA7.out.wrt hw2 (by omega) (show w6.heap.size ≤ wm.heap.size by omega) HKB.out (by decide) (by decide))
      have HLZ2 := hide (HLZ1.out.wrt hw2 (Or.inr (Nat.le_refl _)))
      have HWU2 := hide (HW.out.trans (HA8.out.frame hge HROW.out hsw))
      clear hw2
      go_wp2_with fail
      refine (whole_both HLZ2.out (by rw [HNC.out]; exact hlc) HRC.out HWU2.out (by omega)).mono ?_
      rintro e u3 ⟨rfl, hw3⟩
      have HA9 := hide (HA8.out.wrt hw3 (by omega) (show w7.heap.size ≤ wm.heap.size by omega) HKB.out (by decide) (by decide))
      clear hw3
      go_wp2
      go_ret
      exact ⟨rfl, _, _, _, by omega, HA9.out⟩
end Go.Proofs.YtkncboinfcnklaaGreatDoor.Str

namespace Go.Proofs.YtkncboinfcnklaaGreatDoor.Str
open Go.RowKit Go.Deep Go.Proofs.YtkncboinfcnklaaGreatDoor.Mth

theorem filter_len (A B : List ByteArray) : (A.filter (fun z => memD z B)).length ≤ A.length := List.length_filter_le _ _
theorem filter_take {A B : List ByteArray} {k : Nat} (h : k < A.length) (z : ByteArray) : (A.take (k + 1)).filter (fun z => memD z B) = (A.take k).filter (fun z => memD z B) ++ (if memD (A.getD k z) B then [A.getD k z] else []) := by
  rw [take_one h z, List.filter_append]
  congr 1
  by_cases q : memD (A.getD k z) B = true
  · rw [if_pos q]
    simp [List.filter_cons] at q ⊢
    exact q
  · rw [if_neg q]
    simp [List.filter_cons] at q ⊢
    exact q

set_option maxRecDepth 100000 in
set_option maxHeartbeats 8000000 in
theorem common_step (Win w : World) (wb : Nat) (gv kv : Value) (Ls : List (List ByteArray)) (N : Nat) (xs : List Value) (C : Array Value) (A Bv Cv : Int) (S T : ByteArray) (hW : Below Win.heap.size Win w) (hblk : w.heap[wb]? = some (Obj.cells C 91 (0, 0))) (hcs : C.size = 15) (hc0 : C[1]? = some gv) (hck : C[11]? = some kv) (hge : Win.heap.size ≤ wb) (hG : RdL Win gv Ls) (hLe : ∀ L ∈ Ls, L.length ≤ 1048576) (hLs : Ls.length ≤ 1048576) (hrow : w.ownsRow Win.heap.size 166 5 kv N xs) (hN : N ≤ 4000000) (hA0 : -9223372036854775808 ≤ A) (hA1 : A < 9223372036854775808) (hB0' : -9223372036854775808 ≤ Bv) (hB1' : Bv < 9223372036854775808) (hC0' : -9223372036854775808 ≤ Cv) (hC1' : Cv < 9223372036854775808) :
    Calls Tryz.prog 105 #[.pointer (some ⟨wb, 0, none⟩), .agg #[.int .i64 2, .int .i64 A, .int .i64 Bv, .int .i64 Cv, .string S, .string T]] w fun e w' => e = .returned (.bool true) ∧ ∃ kv' Q n, n + 3 ≤ 4194304 ∧ Aft w w' Win.heap.size wb 11 166 9 1 (fT N) kv kv' N xs C Q n := by
  have hwl : wb < w.heap.size := (Array.getElem?_eq_some_iff.1 hblk).1
  have hsw := hW.size
  have HO := hide (opCells w 2 A Bv Cv S T)
  have HB1 := hide (below_alloc w (Obj.cells #[.int .i64 2, .int .i64 A, .int .i64 Bv, .int .i64 Cv, .string S, .string T] 94))
  have hlt1 : w.heap.size < (w.alloc (Obj.cells #[.int .i64 2, .int .i64 A, .int .i64 Bv, .int .i64 Cv, .string S, .string T] 94)).heap.size := by simp
  have HW := hide hW
  have HG := hide hG
  have HBLK := hide hblk
  have HC0 := hide hc0
  have HCK := hide hck
  have HCS := hide hcs
  have HROW := hide hrow
  have HLE := hide hLe
  clear hW hG hblk hc0 hck hrow hLe
  go_enter Tryz.func105, Tryz.ntmps105
  go_wp2_with fail
  generalize w.alloc (Obj.cells #[.int .i64 2, .int .i64 A, .int .i64 Bv, .int .i64 Cv, .string S, .string T] 94) = w1 at *
  have HW1 := hide (HW.out.trans (HB1.out.mono hsw))
  have hs1 := HB1.out.size
  refine (of_any Win w1 wb gv Ls C A HW1.out ((HB1.out.block wb hwl).trans HBLK.out) HC0.out HG.out hA0 hA1 hLs).mono ?_
  rintro e w2 ⟨va, LA, rfl, hb2, hra, ha⟩
  have HRA := hide hra
  have hla := one_le HLE.out ha
  obtain ⟨aa, ca, rfl, hca, hcma⟩ := rd_len hra
  unfold maxLen at hcma
  have HB2 := hide (HB1.out.trans (hb2.mono hs1))
  have hs2 := hb2.size
  have HO2 := hide ((hb2.block w.heap.size hlt1).trans HO.out)
  have cB := (cell_of (j := 2) (u := .int .i64 Bv) HO2.out rfl).1
  clear hb2 hra ha
  go_wp2_with fail
  have HW2 := hide (HW.out.trans (HB2.out.mono hsw))
  refine (of_any Win w2 wb gv Ls C Bv HW2.out ((HB2.out.block wb hwl).trans HBLK.out) HC0.out HG.out hB0' hB1' hLs).mono ?_
  rintro e w3 ⟨vb, LB', rfl, hb3, hrb, hb⟩
  have HRB := hide hrb
  have hlb := one_le HLE.out hb
  obtain ⟨ab, cb, rfl, hcb, hcmb⟩ := rd_len hrb
  unfold maxLen at hcmb
  have HB3 := hide (HB2.out.trans (hb3.mono (by omega)))
  have hs3 := hb3.size
  have HO3 := hide ((hb3.block w.heap.size (by omega)).trans HO2.out)
  have cC := (cell_of (j := 3) (u := .int .i64 Cv) HO3.out rfl).1
  clear hb3 hrb hb cB
  go_wp2_with fail
  have HW3 := hide (HW.out.trans (HB3.out.mono hsw))
  refine (of_any Win w3 wb gv Ls C Cv HW3.out ((HB3.out.block wb hwl).trans HBLK.out) HC0.out HG.out hC0' hC1' hLs).mono ?_
  rintro e w4 ⟨vc, LC, rfl, hb4, hrc, hc⟩
  have HRC := hide hrc
  have hlc := one_le HLE.out hc
  obtain ⟨ac, cc, rfl, hcc, hcmc⟩ := rd_len hrc
  unfold maxLen at hcmc
  have HB4 := hide (HB3.out.trans (hb4.mono (by omega)))
  have hs4 := hb4.size
  have HO4 := hide ((hb4.block w.heap.size (by omega)).trans HO3.out)
  clear hb4 hrc hc cC
  go_wp2_with fail
  have HW4 := hide (HW.out.trans (HB4.out.mono hsw))
  refine (lent_both w4 _ LA (HRA.out.below HW4.out) (by omega)).mono ?_
  rintro e w5 ⟨xa, xn, xc, rfl, hb5, hx5, hl5⟩
  have HX := hide hx5
  have HLX := hide hl5
  have HB5 := hide (HB4.out.trans (hb5.mono (by omega)))
  have hs5 := hb5.size
  have HO5 := hide ((hb5.block w.heap.size (by omega)).trans HO4.out)
  clear hb5 hx5 hl5
  go_wp2_with fail
  have HW5 := hide (HW.out.trans (HB5.out.mono hsw))
  refine (lent_both w5 _ LB' (HRB.out.below HW5.out) (by omega)).mono ?_
  rintro e w6 ⟨ya, yn, yc, rfl, hb6, hx6, hl6⟩
  have HX6 := hide (HX.out.below hb6)
  have HLX6 := hide (HLX.out.below hb6)
  have HY := hide hx6
  have HLY := hide hl6
  have HB6 := hide (HB5.out.trans (hb6.mono (by omega)))
  have hs6 := hb6.size
  have HO6 := hide ((hb6.block w.heap.size (by omega)).trans HO5.out)
  clear hb6 hx6 hl6 HX HLX
  go_wp2_with fail
  have HW6 := hide (HW.out.trans (HB6.out.mono hsw))
  refine (lent_both w6 _ LC (HRC.out.below HW6.out) (by omega)).mono ?_
  rintro e w7 ⟨za, zn, zc, rfl, hb7, hx7, hl7⟩
  have HX7 := hide (HX6.out.below hb7)
  have HLX7 := hide (HLX6.out.below hb7)
  have HY7 := hide (HY.out.below hb7)
  have HLY7 := hide (HLY.out.below hb7)
  have HZ7 := hide hx7
  have HLZ7 := hide hl7
  have HB7 := hide (HB6.out.trans (hb7.mono (by omega)))
  have hs7 := hb7.size
  have HO7 := hide ((hb7.block w.heap.size (by omega)).trans HO6.out)
  have cK := (cell_of (j := 0) (u := .int .i64 2) HO7.out rfl).1
  have HW7 := hide (HW.out.trans (HB7.out.mono hsw))
  clear hb7 hx7 hl7 HX6 HLX6 HY HLY
  have CM := hide (common_core _ _ LA LB' w7 HX7.out HY7.out (by omega) (by omega) (pf (LA.filter (fun z => memD z LB'))) (pf_filter LA LB').symm)
  go_wp2_with fail
  clear cK
  refine CM.out.mono ?_
  rintro e w8 ⟨lv, rfl, hc8⟩
  obtain ⟨wm, hwm⟩ : ∃ wm, wm = w7 := ⟨_, rfl⟩
  have HC8 : Hid (Cur wm w8 lv (pf (LA.filter (fun z => memD z LB')))) := by rw [hwm]; exact hc8
  have hsm : w7.heap.size ≤ wm.heap.size := by rw [hwm]; exact Nat.le_refl _
  have hsm2 : wm.heap.size ≤ w7.heap.size := by rw [hwm]; exact Nat.le_refl _
  have hs8 := hc8.1.size
  have HB8 := hide (HB7.out.trans (hc8.1.mono (by omega)))
  have HW8 := hide (HW.out.trans (HB8.out.mono hsw))
  have HLX8 := hide (HLX7.out.below hc8.1)
  have HLY8 := hide (HLY7.out.below hc8.1)
  have HLZ8 := hide (HLZ7.out.below hc8.1)
  obtain ⟨lva, lvc, rfl, _, _⟩ := own_slice hc8.2
  generalize hln : (pf (LA.filter (fun z => memD z LB'))).length = ln at *
  clear hln hwm hc8 CM HX7 HY7 HZ7 HLX7 HLY7 HLZ7
  have HTK := hide (fun k h => filter_take (A := LA) (B := LB') (k := k) h ByteArray.empty)
  have HPF : Hid (∀ k, (pf ((LA.take k).filter (fun z => memD z LB'))).length ≤ k) := fun k => Nat.le_trans (pf_all _).2.2 (Nat.le_trans (filter_len _ _) (by rw [List.length_take]; omega))
  have HSN := hide (fun k x => pf_snoc ((LA.take k).filter (fun z => memD z LB')) x)
  have HML : Hid ((pf (LA.filter (fun z => memD z LB'))).length ≤ LA.length) := Nat.le_trans (pf_all _).2.2 (filter_len _ _)
  go_wp2_with fail
  generalize hna : LA.length = na at *
  generalize hnb : LB'.length = nb at *
  generalize hnc : LC.length = nc at *
  have HNA := hide hna
  have HNB := hide hnb
  have HNC := hide hnc
  clear hna hnb hnc
  go_loopw [12, 14] (fun wv i wr => ∃ k : Nat, k ≤ na ∧ i = .int .i64 k ∧ Below w8.heap.size w8 wr ∧ Rd wr wv (pf ((LA.take k).filter (fun z => memD z LB')))) (fun _ i _ => na - (intOf i).toNat)
  case atStart => exact ⟨0, Nat.zero_le _, rfl, Below.refl _ _, by simpa [pf] using Rd.nil _⟩
  case round =>
    obtain ⟨k, hk, rfl, hb, hrw⟩ := hrel
    have HBR0 := hide hb
    have HRW := hide hrw
    have hsr := hb.size
    have HWR := hide (HW8.out.trans (hb.mono HW8.out.size))
    obtain ⟨wa, wc, rfl, _, _⟩ := rd_len hrw
    clear hb hrw
    by_cases hlt : k < na
    · have hpl := HPF.out k
      have HT1 := hide (HTK.out k hlt)
      have HS1 := hide (HSN.out k)
      obtain ⟨b, o, rfl, _, cell⟩ := rd_at (HRA.out.below HWR.out) k (by rw [HNA.out]; exact hlt)
      generalize LA.getD k ByteArray.empty = x at *
      have CI := hide (in_any x (HRB.out.below HWR.out))
      have CP := hide (putText_any x HRW.out (by omega))
      by_cases q : memD x LB' = true
      · rw [q] at CI
        have HT2 : Hid (pf ((LA.take (k + 1)).filter (fun z => memD z LB')) = putS x (pf ((LA.take k).filter (fun z => memD z LB')))) := by
          show _ = _
          rw [HT1.out, if_pos q, HS1.out]
        generalize (pf ((LA.take k).filter (fun z => memD z LB'))).length = wn at *
        go_wp2_with fail
        refine CI.out.mono ?_
        rintro e w9' ⟨rfl, rfl⟩
        go_wp2_with fail
        refine CP.out.mono ?_
        rintro e w9 ⟨v', rfl, hb9, hr9⟩
        have HB9 := hide (HBR0.out.trans (hb9.mono HBR0.out.size))
        have HR9 : Hid (Rd w9 v' (pf ((LA.take (k + 1)).filter (fun z => memD z LB')))) := by
          show Rd _ _ _
          rw [HT2.out]
          exact hr9
        clear hb9 hr9 CP CI cell
        go_wp2
        go_roundw
        case rel => exact ⟨k + 1, by omega, by go_num, HB9.out, HR9.out⟩
        case measure => simp [intOf]; omega
      · rw [Bool.eq_false_iff.2 q] at CI
        have HT2 : Hid (pf ((LA.take (k + 1)).filter (fun z => memD z LB')) = pf ((LA.take k).filter (fun z => memD z LB'))) := by
          show _ = _
          rw [HT1.out, if_neg q, List.append_nil]
        have HR9 : Hid (Rd wr (.slice wa (pf ((LA.take k).filter (fun z => memD z LB'))).length wc) (pf ((LA.take (k + 1)).filter (fun z => memD z LB')))) := by
          show Rd _ _ _
          rw [HT2.out]
          exact HRW.out
        generalize (pf ((LA.take k).filter (fun z => memD z LB'))).length = wn at *
        go_wp2_with fail
        refine CI.out.mono ?_
        rintro e w9' ⟨rfl, rfl⟩
        clear CP CI cell
        go_wp2
        go_roundw
        case rel => exact ⟨k + 1, by omega, by go_num, HBR0.out, HR9.out⟩
        case measure => simp [intOf]; omega
    · have hke : k = na := by omega
      have htk : LA.take k = LA := List.take_of_length_le (by rw [HNA.out]; omega)
      have HWT : Hid (Rd wr (.slice wa (pf ((LA.take k).filter (fun z => memD z LB'))).length wc) (pf (LA.filter (fun z => memD z LB')))) := by
        have := HRW.out
        rw [htk] at this
        rw [htk]
        exact this
      have HCV := hide (cur_on HC8.out HBR0.out)
      have HBR := hide (HB8.out.trans (HBR0.out.mono (by omega)))
      have HLXR := hide (HLX8.out.below HBR0.out)
      have HLYR := hide (HLY8.out.below HBR0.out)
      have HLZR := hide (HLZ8.out.below HBR0.out)
      have hml := HML.out
      clear htk
      generalize (pf ((LA.take k).filter (fun z => memD z LB'))).length = wn at *
      go_wp2_with fail
      refine (sameTexts_any (cur_rd HCV.out) HWT.out).mono ?_
      rintro e w9 ⟨rfl, hb9⟩
      have HC9 := hide (cur_on HCV.out hb9)
      have HB9 := hide (HBR.out.trans (hb9.mono (by omega)))
      have hs9 := hb9.size
      have HLX9 := hide (HLXR.out.below hb9)
      have HLY9 := hide (HLYR.out.below hb9)
      have HLZ9 := hide (HLZR.out.below hb9)
      clear hb9
      have HBW9 := hide ((HB9.out.block wb hwl).trans HBLK.out)
      have HRW9 := hide (own_same HROW.out (fun g hg => HB9.out.block g (own_block HROW.out hg).2.1))
      have CK := hide (keepTexts2_any w9 wm.heap.size wb Win.heap.size _ kv _ N _ xs C HC9.out.2 (by omega) (by omega) HBW9.out HCS.out HCK.out HRW9.out (fun g hg => by have := (own_block HROW.out hg).2.1; omega) (by omega) (by omega) (by omega))
      go_wp2_with fail
      refine CK.out.mono ?_
      rintro e wk ⟨rfl, tv', va', vb', vc', hK, hKB⟩
      have HA6 := hide (aft_of HB9.out (by omega) hK)
      have HKB := hide hKB
      have HLXK := hide (HLX9.out.keep fun g D h1 h2 hD => (kept_at hK (by omega) hD HBW9.out HRW9.out (by decide) (by decide)).trans hD.symm)
      have HLYK := hide (HLY9.out.keep fun g D h1 h2 hD => (kept_at hK (by omega) hD HBW9.out HRW9.out (by decide) (by decide)).trans hD.symm)
      have HLZK := hide (HLZ9.out.keep fun g D h1 h2 hD => (kept_at hK (by omega) hD HBW9.out HRW9.out (by decide) (by decide)).trans hD.symm)
      clear hK hKB CK
      have HWK := hide (HW.out.trans (HA6.out.frame hge HROW.out hsw))
      go_wp2_with fail
      refine (whole_both HLXK.out (by rw [HNA.out]; exact hla) HRA.out HWK.out (by omega)).mono ?_
      rintro e u1 ⟨rfl, hw1⟩
      have HA7 := hide (HA6.out.wrt hw1 (by omega) (show w5.heap.size ≤ wm.heap.size by omega) HKB.out (by decide) (by decide))
      have HLY1 := hide (HLYK.out.wrt hw1 (Or.inr (Nat.le_refl _)))
      have HLZ1 := hide (HLZK.out.wrt hw1 (Or.inr (by omega)))
      have HWU1 := hide (HW.out.trans (HA7.out.frame hge HROW.out hsw))
      clear hw1
      go_wp2_with fail
      refine (whole_both HLY1.out (by rw [HNB.out]; exact hlb) HRB.out HWU1.out (by omega)).mono ?_
      rintro e u2 ⟨rfl, hw2⟩
      have HA8 := hide (HA7.out.wrt hw2 (by omega) (show w6.heap.size ≤ wm.heap.size by omega) HKB.out (by decide) (by decide))
      have HLZ2 := hide (HLZ1.out.wrt hw2 (Or.inr (Nat.le_refl _)))
      have HWU2 := hide (HW.out.trans (HA8.out.frame hge HROW.out hsw))
      clear hw2
      go_wp2_with fail
      refine (whole_both HLZ2.out (by rw [HNC.out]; exact hlc) HRC.out HWU2.out (by omega)).mono ?_
      rintro e u3 ⟨rfl, hw3⟩
      have HA9 := hide (HA8.out.wrt hw3 (by omega) (show w7.heap.size ≤ wm.heap.size by omega) HKB.out (by decide) (by decide))
      clear hw3
      go_wp2
      go_ret
      exact ⟨rfl, _, _, _, by omega, HA9.out⟩
end Go.Proofs.YtkncboinfcnklaaGreatDoor.Str

namespace Go.Proofs.YtkncboinfcnklaaGreatDoor.Str
open Go.RowKit Go.Deep Go.Proofs.YtkncboinfcnklaaGreatDoor.Mth

/-- Nodes stand where no block of their shape is written. -/
theorem inT_same {w w' : World} (hs : ∀ (g : Nat) (a : ByteArray), w.cell? ⟨g, 0, none⟩ = some (eS a) → w'.heap[g]? = w.heap[g]?) : ∀ {T : BT ByteArray}, InT eS w T → InT eS w' T
  | .nil, _ => trivial
  | .node b o a l r, ⟨h0, h1, h2, h3, h4, hl, hr⟩ => by
    have hk : ∀ j, w'.cell? ⟨b, j, none⟩ = w.cell? ⟨b, j, none⟩ := fun j => World.cell?_of_block (w := w) (a := ⟨b, j, none⟩) (hs b a h1)
    exact ⟨h0, (hk 0).trans h1, h2.same (hs b a h1), (hk 2).trans h3, (hk 3).trans h4, inT_same hs hl, inT_same hs hr⟩

/-- The sets that there are, and what is in them. -/
structure SSet (w : World) (B : Nat) (iv rv : Value) (ns M : Nat) (sb : Nat → Nat) (T : Nat → BT ByteArray) (r : Nat → Value) : Prop where
  row : w.ownsRow B 286 1 iv ns ((List.range ns).map fun i => .pointer (some ⟨sb i, 0, none⟩))
  ref : w.ownsRow B 58 1 rv ns ((List.range ns).map r)
  one : ∀ i, i < ns → SetAt w (sb i) (T i)
  typ : ∀ i, i < ns → ∃ D, w.heap[sb i]? = some (Obj.cells D 289 (0, 0))
  ge : ∀ i, i < ns → B ≤ sb i
  own : ∀ i, i < ns → w.ownsRow B 9 1 (r i) (lst (T i)).length ((lst (T i)).map eS)
  len : ∀ i, i < ns → (lst (T i)).length ≤ M
  ap : ∀ i j, i < ns → j < ns → sb i = sb j → i = j
  nil : ns = 0 → iv = .slice none 0 0 ∧ rv = .slice none 0 0

/-- The types of the blocks that sets are made of (nodes apart). -/
def SetTy (t : TypeId) : Prop := t = 286 ∨ t = 58 ∨ t = 9 ∨ t = 289

theorem SSet.keep {w w' : World} {B : Nat} {iv rv : Value} {ns M : Nat} {sb : Nat → Nat} {T : Nat → BT ByteArray} {r : Nat → Value} (h : SSet w B iv rv ns M sb T r) (k1 : ∀ (g : Nat) D t, SetTy t → w.heap[g]? = some (Obj.cells D t (0, 0)) → w'.heap[g]? = w.heap[g]?) (k2 : ∀ (g : Nat) (a : ByteArray), w.cell? ⟨g, 0, none⟩ = some (eS a) → w'.heap[g]? = w.heap[g]?) : SSet w' B iv rv ns M sb T r := by
  refine ⟨own_same h.row (fun g hg => ?_), own_same h.ref (fun g hg => ?_), fun i hi => ?_, fun i hi => ?_, h.ge, fun i hi => own_same (h.own i hi) (fun g hg => ?_), h.len, h.ap, h.nil⟩
  · obtain ⟨_, _, D, hD⟩ := own_block h.row hg
    exact k1 g D _ (Or.inl rfl) hD
  · obtain ⟨_, _, D, hD⟩ := own_block h.ref hg
    exact k1 g D _ (Or.inr (Or.inl rfl)) hD
  · obtain ⟨c, f, hT, hup⟩ := h.one i hi
    obtain ⟨D, hD⟩ := h.typ i hi
    have e := k1 _ D _ (Or.inr (Or.inr (Or.inr rfl))) hD
    exact ⟨(World.cell?_of_block (w := w) (a := ⟨sb i, 0, none⟩) e).trans c, (World.frozen?_of_block (w := w) (a := ⟨sb i, 0, none⟩) e).trans f, inT_same k2 hT, hup⟩
  · obtain ⟨D, hD⟩ := h.typ i hi
    exact ⟨D, (k1 _ D _ (Or.inr (Or.inr (Or.inr rfl))) hD).trans hD⟩
  · obtain ⟨_, _, D, hD⟩ := own_block (h.own i hi) hg
    exact k1 g D _ (Or.inr (Or.inr (Or.inl rfl))) hD
theorem SSet.below {w w' : World} {B : Nat} {iv rv : Value} {ns M : Nat} {sb : Nat → Nat} {T : Nat → BT ByteArray} {r : Nat → Value} (h : SSet w B iv rv ns M sb T r) (hb : Below w.heap.size w w') : SSet w' B iv rv ns M sb T r :=
  h.keep (fun g _ _ _ hD => hb.block g (Array.getElem?_eq_some_iff.1 hD).1) (fun g _ hc => hb.block g (World.block_lt_of_cell? _ _ hc))
theorem SSet.mono {w : World} {B : Nat} {iv rv : Value} {ns M M' : Nat} {sb : Nat → Nat} {T : Nat → BT ByteArray} {r : Nat → Value} (h : SSet w B iv rv ns M sb T r) (hM : M ≤ M') : SSet w B iv rv ns M' sb T r :=
  ⟨h.row, h.ref, h.one, h.typ, h.ge, h.own, fun i hi => Nat.le_trans (h.len i hi) hM, h.ap, h.nil⟩
/-- What is written: the law's own block, and a row whose first cell is no item. -/
theorem SSet.tch {w w' : World} {B : Nat} {iv rv : Value} {ns M : Nat} {sb : Nat → Nat} {T : Nat → BT ByteArray} {r : Nat → Value} (h : SSet w B iv rv ns M sb T r) {wb : Nat} {C : Array Value} {tv : Value} {Tt : TypeId} {sz n : Nat} {xs : List Value} (ht : Tch (fun k => k = wb ∨ some k = tv.ownBlock) w w') (hblk : w.heap[wb]? = some (Obj.cells C 91 (0, 0))) (h0 : ∃ a n c, C[0]? = some (.slice a n c)) (hrow : w.ownsRow B Tt sz tv n xs) (hTt : ¬ SetTy Tt) (hx : tv.ownBlock = none ∨ ∃ v, xs[0]? = some v ∧ ∀ a : ByteArray, v ≠ eS a) : SSet w' B iv rv ns M sb T r := by
  refine h.keep (fun g D t hst hD => ht.block g (Array.getElem?_eq_some_iff.1 hD).1 (fun q => ?_)) (fun g a hc => ht.block g (World.block_lt_of_cell? _ _ hc) (fun q => ?_))
  · rcases q with rfl | q
    · rw [hblk] at hD
      injection hD with hD
      injection hD with _ hD _
      subst hD
      rcases hst with q | q | q | q <;> exact absurd q (by decide)
    · obtain ⟨_, _, E, hE⟩ := own_block hrow q
      rw [hE] at hD
      injection hD with hD
      injection hD with _ hD _
      subst hD
      exact hTt hst
  · rcases q with rfl | q
    · obtain ⟨a', n', c', e⟩ := h0
      have := (cell_of hblk e).1
      rw [this] at hc
      cases hc
    · rcases hx with hx | ⟨v, hv, hne⟩
      · rw [hx] at q; cases q
      · rcases hrow.2 with ⟨e, _⟩ | ⟨g', cap, cur, e, _⟩
        · rw [e] at q; simp [Value.ownBlock] at q
        · rw [e] at q hrow
          simp [Value.ownBlock] at q
          subst q
          have := hrow.cells (g := g) rfl 0 v hv
          rw [show (⟨g, 0, none⟩ : Addr).add 0 = ⟨g, 0, none⟩ from by unfold Addr.add; split <;> simp_all] at this
          rw [this] at hc
          exact hne a (Option.some.inj hc)
end Go.Proofs.YtkncboinfcnklaaGreatDoor.Str
