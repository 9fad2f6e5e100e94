import Derived.Test.YtkncboinfcnklaaGreatDoorJd
import Derived.Test.YtkncboinfcnklaaGreatDoorIb
namespace Go.Proofs.YtkncboinfcnklaaGreatDoor.WI
open Go.RowKit Go.Deep Go.Proofs.YtkncboinfcnklaaGreatDoor.Mth

theorem put_ins {l m : List Int} {x : Int} (hl : l.Pairwise ltI) (hx : ¬ x ∈ l) (h : Put (fun a b : Int => a < b) l x m) : m = ins ltI x l :=
  up_ext sordInt.irr sordInt.tr h.1 (ins_up sordInt x l hl hx) fun z => by rw [h.2.1, ins_mem]

set_option maxRecDepth 100000 in
set_option maxHeartbeats 4000000 in
theorem add_step (w : World) (B wb : Nat) (g0 g1 g2 g3 q5 q7 k8 k9 k10 k11 k12 k13 k14 iv rv : Value) (ns M : Nat) (sb : Nat → Nat) (Tr : Nat → BT Int) (rr : Nat → Value) (A Bv Cv : Int) (S T : ByteArray) (hblk : w.heap[wb]? = some (Obj.cells #[g0, g1, g2, g3, iv, q5, rv, q7, k8, k9, k10, k11, k12, k13, k14] 91 (0, 0))) (hI : SSet w B iv rv ns M sb Tr rr) (hB : B ≤ w.heap.size) (hns : 0 < ns) (hn2 : ns ≤ 4194304) (hM : M ≤ 4000000) (hA0 : -9223372036854775808 ≤ A) (hA1 : A < 9223372036854775808) (hC0 : -9223372036854775808 ≤ Cv) (hC1 : Cv < 9223372036854775808) :
    Calls Tryz.prog 107 #[.pointer (some ⟨wb, 0, none⟩), .agg #[.int .i64 4, .int .i64 A, .int .i64 Bv, .int .i64 Cv, .string S, .string T]] w fun e w' => e = .returned (.bool true) ∧ ∃ s Tr' rr', B ≤ s ∧ (∃ i, i < ns ∧ sb i = s) ∧ Tch (fun k => k = s ∨ some k = rv.ownBlock) w w' ∧ SSet w' B iv rv ns (M + 1) sb Tr' rr' := by
  have hwl : wb < w.heap.size := (Array.getElem?_eq_some_iff.1 hblk).1
  have HO := hide (opCells w 4 A Bv Cv S T)
  have HB1 := hide (below_alloc w (Obj.cells #[.int .i64 4, .int .i64 A, .int .i64 Bv, .int .i64 Cv, .string S, .string T] 94))
  have hlt1 : w.heap.size < (w.alloc (Obj.cells #[.int .i64 4, .int .i64 A, .int .i64 Bv, .int .i64 Cv, .string S, .string T] 94)).heap.size := by simp
  obtain ⟨ia, ic, rfl, hic, hicm⟩ := own_slice hI.row
  obtain ⟨ra, rc, rfl, hrc, hrcm⟩ := own_slice hI.ref
  unfold maxLen at hicm hrcm
  obtain ⟨r, hr0, hr1, hpk⟩ := pick_fix A (ns : Int) hA0 hA1 (by omega) (by omega)
  obtain ⟨i, rfl⟩ := Int.eq_ofNat_of_zero_le hr0
  have hi : i < ns := by omega
  have HII := hide hI
  have HBLK := hide hblk
  have HPK := hide hpk
  have cw1 := (cell_of (j := 4) (u := .slice ia ns ic) ((HB1.out.block wb hwl).trans hblk) rfl).1
  have cA := (cell_of (j := 1) (u := .int .i64 A) HO.out rfl).1
  clear hI hblk hpk
  go_enter Tryz.func107, Tryz.ntmps107
  go_wp2_with fail
  generalize w.alloc (Obj.cells #[.int .i64 4, .int .i64 A, .int .i64 Bv, .int .i64 Cv, .string S, .string T] 94) = w1 at *
  have d1 := cell_regrown cw1
  have d2 := cell_regrown cA
  have CP := hide (fun d os => Calls.regrown_of (w := w1) (d := d) (os := os) ((HPK.out (Sort.grow (redrawn w1 d) os)).mono fun e w' q => ⟨q.1, by rw [q.2]; exact Below.refl _ _⟩))
  clear cw1 cA
  refine wp_region_quiet_below (by kernel_rfl) (by kernel_rfl) ?_
  repeat (go_big_quiet_step (first | (go_at_call 15; exact CP.out _ _)))
  refine wpQuiet_nil ?_
  intro _ hw'
  obtain ⟨⟨dq, osq⟩, hw''⟩ := hw'
  subst hw''
  have HBQ := hide (below_regrown w1 dq osq)
  clear d1 d2 CP
  generalize Sort.grow (redrawn w1 dq) osq = w2 at *
  have hs1 := HB1.out.size
  have hs2 := HBQ.out.size
  have HB02 : Hid (Below w.heap.size w w2) := HB1.out.trans (HBQ.out.mono (by omega))
  have HI2 := hide (HII.out.below HB02.out)
  have HBL2 := hide ((HB02.out.block wb hwl).trans HBLK.out)
  have HO2 := hide ((HBQ.out.block w.heap.size hlt1).trans HO.out)
  obtain ⟨c4, _⟩ := cell_of (j := 4) (u := .slice ia ns ic) HBL2.out rfl
  obtain ⟨c6, _⟩ := cell_of (j := 6) (u := .slice ra ns rc) HBL2.out rfl
  obtain ⟨o0, _⟩ := cell_of (j := 0) (u := .int .i64 4) HO2.out rfl
  obtain ⟨o2, _⟩ := cell_of (j := 2) (u := .int .i64 Bv) HO2.out rfl
  obtain ⟨o3, _⟩ := cell_of (j := 3) (u := .int .i64 Cv) HO2.out rfl
  obtain ⟨o4, _⟩ := cell_of (j := 4) (u := .string S) HO2.out rfl
  obtain ⟨o5, _⟩ := cell_of (j := 5) (u := .string T) HO2.out rfl
  obtain ⟨gi, rfl⟩ := own_first HI2.out.row (by omega)
  obtain ⟨gr, rfl⟩ := own_first HI2.out.ref (by omega)
  have p1 := row_cell HI2.out.row hi
  have p2 := row_cell HI2.out.ref hi
  have HSA := hide (HI2.out.one i hi)
  have HOW := hide (HI2.out.own i hi)
  have hlen := HI2.out.len i hi
  obtain ⟨la, lc, hrv, _, hlcm⟩ := own_slice HOW.out
  rw [hrv] at p2 HOW
  have HRD := hide (rd_own HOW.out)
  generalize hsb : sb i = s at *
  generalize hTT : Tr i = TT at *
  have HSB := hide hsb
  have HTT := hide hTT
  have HRV := hide hrv
  clear hsb hTT hrv
  obtain ⟨D2, hD2⟩ := HI2.out.typ i hi
  rw [HSB.out] at hD2
  have hges := HI2.out.ge i hi
  rw [HSB.out] at hges
  have CA0 := hide (add_any s TT Bv w2 HSA.out (by omega))
  go_wp2_with fail
  refine CA0.out.mono ?_
  rintro e w3 ⟨rfl, T', hS3, hg3, hin, hout, htyp⟩
  obtain ⟨D3, hD3⟩ := htyp _ _ hD2
  have hs3 := hg3.size
  have k3 : ∀ (k : Nat) D t, t ≠ 208 → w2.heap[k]? = some (Obj.cells D t (0, 0)) → w3.heap[k]? = some (Obj.cells D t (0, 0)) := by
    intro k D t hne hD
    refine (hg3.block k (Array.getElem?_eq_some_iff.1 hD).1 (fun q => ?_)).trans hD
    injection q with q
    subst q
    rw [hD2] at hD
    injection hD with hD
    injection hD with _ hD _
    exact hne hD.symm
  have HO3 := hide (k3 _ _ _ (by decide) HO2.out)
  have HBL3 := hide (k3 _ _ _ (by decide) HBL2.out)
  have HOW3 : Hid (w3.ownsRow B 3 1 (.slice la (lst TT).length lc) (lst TT).length ((lst TT).map eI)) := own_same HOW.out (fun g hg => by
    obtain ⟨_, _, D, hD⟩ := own_block HOW.out hg
    exact (k3 g D _ (by decide) hD).trans hD.symm)
  have CP0 := hide (putRow_core la lc (lst TT) Bv w3 (rd_own HOW3.out) (by omega))
  obtain ⟨o2', _⟩ := cell_of (j := 2) (u := .int .i64 Bv) HO3.out rfl
  have HS3 := hide hS3
  have HG3 := hide hg3
  have HIN := hide hin
  have HOUT := hide hout
  have HD3 := hide hD3
  have HUP := hide HSA.out.2.2.2
  clear CA0 hS3 hg3 hin hout htyp k3 c4 o0 o2 o3 o4 o5 p1 p2 hD3
  by_cases hx : Bv ∈ lst TT
  · rw [decide_eq_true hx]
    have CP1 := CP0
    rw [memD_true hx] at CP1
    have HX := hide hx
    clear CP0 hx
    go_wp2_with fail
    refine CP1.out.mono ?_
    rintro e w4 ⟨v', rfl, hb4, hv4⟩
    have hv5 : v' = .slice la (lst TT).length lc := by
      rcases hv4 with q | q
      · exact q.1
      · exact absurd HX.out q.1
    subst hv5
    have hle : lst T' = lst TT := HIN.out HX.out
    have hn : (lst TT).length = (lst T').length := by rw [hle]
    have HLE := hide hle
    clear hle hv4
    generalize (lst TT).length = nT at *
    subst hn
    have HB4 := hide hb4
    have hs4 := hb4.size
    have HBL4 := hide ((hb4.block wb (by omega)).trans HBL3.out)
    have HO4 := hide ((hb4.block w.heap.size (by omega)).trans HO3.out)
    obtain ⟨c6', _⟩ := cell_of (j := 6) (u := .slice (some ⟨gr, 0, none⟩) ns rc) HBL4.out rfl
    have HADD := hide (SSet.added (i := i) (T' := T') (v' := .slice la (lst T').length lc) (M' := M + 1) HI2.out hi (by omega) (by rw [HSB.out]; exact HG3.out) (by rw [HSB.out]; exact HS3.out) (by rw [HSB.out]; exact ⟨D3, HD3.out⟩) hb4 (Or.inl ⟨HRV.out.symm, by rw [HTT.out]; exact HLE.out⟩) (by omega) (by omega))
    obtain ⟨_, hgl, Dg, hDg⟩ := own_block HI2.out.ref (g := gr) (by simp [Value.ownBlock])
    have hDg4 : w4.heap[gr]? = some (Obj.cells Dg 149 (0, 0)) := by
      rw [hb4.block gr (by omega), HG3.out.block gr hgl (fun q => by
        injection q with q
        subst q
        rw [hD2] at hDg
        injection hDg with hDg
        injection hDg with _ hDg _
        exact absurd hDg (by decide))]
      exact hDg
    have r4 := HADD.out.ref
    have hcell4 : ∃ y, w4.cell? ⟨gr, i, none⟩ = some y := by
      have q := row_cell HI2.out.ref hi
      have e : w4.heap[gr]? = w2.heap[gr]? := hDg4.trans hDg.symm
      exact ⟨_, (World.cell?_of_block (w := w2) (a := ⟨gr, i, none⟩) e).trans q⟩
    obtain ⟨y4, hy4⟩ := hcell4
    have hf4 : w4.frozen? ⟨gr, i, none⟩ = false := by simp [World.frozen?, hDg4]
    have HO5 : Hid ((w4.setCell ⟨gr, i, none⟩ (.slice la (lst T').length lc)).heap[w.heap.size]? = some (Obj.cells #[.int .i64 4, .int .i64 A, .int .i64 Bv, .int .i64 Cv, .string S, .string T] 94 (0, 0))) := by
      show _ = _
      rw [set_other (fun q => by
        rw [q, hDg4] at HO4
        have HO4 := HO4.out
        injection HO4 with HO4
        injection HO4 with _ HO4 _
        exact absurd HO4 (by decide))]
      exact HO4.out
    have HT5 : Hid (Tch (fun k => k = s ∨ some k = (Value.slice (some ⟨gr, 0, none⟩) ns rc).ownBlock) w (w4.setCell ⟨gr, i, none⟩ (.slice la (lst T').length lc))) := by
      refine ⟨hb4.os.trans (HG3.out.os.trans HB02.out.os), hb4.tape.trans (HG3.out.tape.trans HB02.out.tape), hb4.output.trans (HG3.out.output.trans HB02.out.output), by simp; omega, fun k hk hn => ?_⟩
      rw [set_other (fun q => hn (Or.inr (by simp [Value.ownBlock, q]))), hb4.block k (by omega), HG3.out.block k (by omega) (fun q => hn (Or.inl (by injection q)))]
      exact HB02.out.block k hk
    have HSA5 : Hid (SetAt (w4.setCell ⟨gr, i, none⟩ (.slice la (lst T').length lc)) s T') := by
      have := HADD.out.one i hi
      simp only [↓reduceIte] at this
      rwa [HSB.out] at this
    have HRD5 : Hid (Rd (w4.setCell ⟨gr, i, none⟩ (.slice la (lst T').length lc)) (.slice la (lst T').length lc) (lst T')) := by
      have := HADD.out.own i hi
      simp only [↓reduceIte] at this
      exact rd_own this
    clear hb4 CP1 r4 hgl hDg HBL3 HO3 HBL2 HO2 o2'
    obtain ⟨o2, _⟩ := cell_of (j := 2) (u := .int .i64 Bv) HO5.out rfl
    obtain ⟨o3, _⟩ := cell_of (j := 3) (u := .int .i64 Cv) HO5.out rfl
    obtain ⟨o4, _⟩ := cell_of (j := 4) (u := .string S) HO5.out rfl
    go_wp2_with fail
    clear hy4 hf4 c6'
    generalize hw5 : w4.setCell ⟨gr, i, none⟩ (.slice la (lst T').length lc) = w5 at *
    clear hw5
    have CH := hide (has_any s T' Bv w5 HSA5.out)
    have CI := hide (in_any Bv HRD5.out)
    have CL := hide (len_any s T' w5 HSA5.out)
    generalize hdx : decide (Bv ∈ lst T') = dx at *
    clear hdx
    by_cases hc0 : Cv < 0
    · have CA := hide (at_below s Cv w5 hc0)
      have z1 : decide (0 ≤ Cv) = false := by simp; omega
      generalize (lst T').length = n' at *
      refine CH.out.mono ?_
      rintro e u1 ⟨rfl, rfl⟩
      go_wp2_with fail
      refine CI.out.mono ?_
      rintro e u2 ⟨rfl, rfl⟩
      go_wp2_with fail
      refine CL.out.mono ?_
      rintro e u3 ⟨rfl, rfl⟩
      go_wp2_with fail
      refine CA.out.mono ?_
      rintro e u4 ⟨rfl, rfl⟩
      clear CH CI CL CA
      cases dx
      all_goals (
        go_wp2
        go_ret
        exact ⟨by simp, s, _, _, hges, ⟨i, hi, HSB.out⟩, HT5.out, HADD.out⟩)
    · obtain ⟨jj, rfl⟩ := Int.eq_ofNat_of_zero_le (Int.not_lt.1 hc0)
      by_cases hc1 : jj < (lst T').length
      · have CA := hide (at_in s T' jj w5 HSA5.out hc1 (by omega))
        obtain ⟨b, o, hla, _, cell⟩ := rd_at HRD5.out jj hc1
        subst hla
        generalize (lst T').getD jj 0 = y at *
        generalize (lst T').length = n' at *
        refine CH.out.mono ?_
        rintro e u1 ⟨rfl, rfl⟩
        go_wp2_with fail
        refine CI.out.mono ?_
        rintro e u2 ⟨rfl, rfl⟩
        go_wp2_with fail
        refine CL.out.mono ?_
        rintro e u3 ⟨rfl, rfl⟩
        go_wp2_with fail
        refine CA.out.mono ?_
        rintro e u4 ⟨rfl, rfl⟩
        clear CH CI CL CA
        cases dx
        all_goals (
          go_wp2
          go_ret
          exact ⟨by simp, s, _, _, hges, ⟨i, hi, HSB.out⟩, HT5.out, HADD.out⟩)
      · have CA := hide (at_above s T' jj w5 HSA5.out (by omega) (by omega))
        generalize (lst T').length = n' at *
        refine CH.out.mono ?_
        rintro e u1 ⟨rfl, rfl⟩
        go_wp2_with fail
        refine CI.out.mono ?_
        rintro e u2 ⟨rfl, rfl⟩
        go_wp2_with fail
        refine CL.out.mono ?_
        rintro e u3 ⟨rfl, rfl⟩
        go_wp2_with fail
        refine CA.out.mono ?_
        rintro e u4 ⟨rfl, rfl⟩
        clear CH CI CL CA
        cases dx
        all_goals (
          go_wp2
          go_ret
          exact ⟨by simp, s, _, _, hges, ⟨i, hi, HSB.out⟩, HT5.out, HADD.out⟩)
  · rw [decide_eq_false hx]
    have CP1 := CP0
    rw [memD_false hx] at CP1
    have HX := hide hx
    clear CP0 hx
    go_wp2_with fail
    refine CP1.out.mono ?_
    rintro e w4 ⟨v', rfl, hb4, hv4⟩
    have hcur : Cur w3 w4 v' (lst T') := by
      rcases hv4 with q | q
      · exact absurd q.2 HX.out
      · rw [put_ins HUP.out HX.out (HOUT.out HX.out)]
        exact q.2
    have HLP : Hid ((lst T').length = (lst TT).length + 1) := (HOUT.out HX.out).2.2
    obtain ⟨va, vc, rfl, _, hvcm⟩ := own_slice hcur.2
    have HCUR := hide hcur
    have hlp : (lst T').length ≤ M + 1 := by rw [HLP.out]; omega
    clear hcur
    have HB4 := hide hb4
    have hs4 := hb4.size
    have HBL4 := hide ((hb4.block wb (by omega)).trans HBL3.out)
    have HO4 := hide ((hb4.block w.heap.size (by omega)).trans HO3.out)
    obtain ⟨c6', _⟩ := cell_of (j := 6) (u := .slice (some ⟨gr, 0, none⟩) ns rc) HBL4.out rfl
    have HADD := hide (SSet.added (i := i) (T' := T') (v' := .slice va (lst T').length vc) (M' := M + 1) HI2.out hi (by omega) (by rw [HSB.out]; exact HG3.out) (by rw [HSB.out]; exact HS3.out) (by rw [HSB.out]; exact ⟨D3, HD3.out⟩) hb4 (Or.inr HCUR.out) (by omega) (by rw [HLP.out]; omega))
    obtain ⟨_, hgl, Dg, hDg⟩ := own_block HI2.out.ref (g := gr) (by simp [Value.ownBlock])
    have hDg4 : w4.heap[gr]? = some (Obj.cells Dg 149 (0, 0)) := by
      rw [hb4.block gr (by omega), HG3.out.block gr hgl (fun q => by
        injection q with q
        subst q
        rw [hD2] at hDg
        injection hDg with hDg
        injection hDg with _ hDg _
        exact absurd hDg (by decide))]
      exact hDg
    have r4 := HADD.out.ref
    have hcell4 : ∃ y, w4.cell? ⟨gr, i, none⟩ = some y := by
      have q := row_cell HI2.out.ref hi
      have e : w4.heap[gr]? = w2.heap[gr]? := hDg4.trans hDg.symm
      exact ⟨_, (World.cell?_of_block (w := w2) (a := ⟨gr, i, none⟩) e).trans q⟩
    obtain ⟨y4, hy4⟩ := hcell4
    have hf4 : w4.frozen? ⟨gr, i, none⟩ = false := by simp [World.frozen?, hDg4]
    have HO5 : Hid ((w4.setCell ⟨gr, i, none⟩ (.slice va (lst T').length vc)).heap[w.heap.size]? = some (Obj.cells #[.int .i64 4, .int .i64 A, .int .i64 Bv, .int .i64 Cv, .string S, .string T] 94 (0, 0))) := by
      show _ = _
      rw [set_other (fun q => by
        rw [q, hDg4] at HO4
        have HO4 := HO4.out
        injection HO4 with HO4
        injection HO4 with _ HO4 _
        exact absurd HO4 (by decide))]
      exact HO4.out
    have HT5 : Hid (Tch (fun k => k = s ∨ some k = (Value.slice (some ⟨gr, 0, none⟩) ns rc).ownBlock) w (w4.setCell ⟨gr, i, none⟩ (.slice va (lst T').length vc))) := by
      refine ⟨hb4.os.trans (HG3.out.os.trans HB02.out.os), hb4.tape.trans (HG3.out.tape.trans HB02.out.tape), hb4.output.trans (HG3.out.output.trans HB02.out.output), by simp; omega, fun k hk hn => ?_⟩
      rw [set_other (fun q => hn (Or.inr (by simp [Value.ownBlock, q]))), hb4.block k (by omega), HG3.out.block k (by omega) (fun q => hn (Or.inl (by injection q)))]
      exact HB02.out.block k hk
    have HSA5 : Hid (SetAt (w4.setCell ⟨gr, i, none⟩ (.slice va (lst T').length vc)) s T') := by
      have := HADD.out.one i hi
      simp only [↓reduceIte] at this
      rwa [HSB.out] at this
    have HRD5 : Hid (Rd (w4.setCell ⟨gr, i, none⟩ (.slice va (lst T').length vc)) (.slice va (lst T').length vc) (lst T')) := by
      have := HADD.out.own i hi
      simp only [↓reduceIte] at this
      exact rd_own this
    clear hb4 hv4 CP1 r4 hgl hDg HBL3 HO3 HBL2 HO2 o2'
    obtain ⟨o2, _⟩ := cell_of (j := 2) (u := .int .i64 Bv) HO5.out rfl
    obtain ⟨o3, _⟩ := cell_of (j := 3) (u := .int .i64 Cv) HO5.out rfl
    obtain ⟨o4, _⟩ := cell_of (j := 4) (u := .string S) HO5.out rfl
    go_wp2_with fail
    clear hy4 hf4 c6'
    generalize hw5 : w4.setCell ⟨gr, i, none⟩ (.slice va (lst T').length vc) = w5 at *
    clear hw5
    have CH := hide (has_any s T' Bv w5 HSA5.out)
    have CI := hide (in_any Bv HRD5.out)
    have CL := hide (len_any s T' w5 HSA5.out)
    generalize hdx : decide (Bv ∈ lst T') = dx at *
    clear hdx
    by_cases hc0 : Cv < 0
    · have CA := hide (at_below s Cv w5 hc0)
      have z1 : decide (0 ≤ Cv) = false := by simp; omega
      generalize (lst T').length = n' at *
      refine CH.out.mono ?_
      rintro e u1 ⟨rfl, rfl⟩
      go_wp2_with fail
      refine CI.out.mono ?_
      rintro e u2 ⟨rfl, rfl⟩
      go_wp2_with fail
      refine CL.out.mono ?_
      rintro e u3 ⟨rfl, rfl⟩
      go_wp2_with fail
      refine CA.out.mono ?_
      rintro e u4 ⟨rfl, rfl⟩
      clear CH CI CL CA
      cases dx
      all_goals (
        go_wp2
        go_ret
        exact ⟨by simp, s, _, _, hges, ⟨i, hi, HSB.out⟩, HT5.out, HADD.out⟩)
    · obtain ⟨jj, rfl⟩ := Int.eq_ofNat_of_zero_le (Int.not_lt.1 hc0)
      by_cases hc1 : jj < (lst T').length
      · have CA := hide (at_in s T' jj w5 HSA5.out hc1 (by omega))
        obtain ⟨b, o, hla, _, cell⟩ := rd_at HRD5.out jj hc1
        subst hla
        generalize (lst T').getD jj 0 = y at *
        generalize (lst T').length = n' at *
        refine CH.out.mono ?_
        rintro e u1 ⟨rfl, rfl⟩
        go_wp2_with fail
        refine CI.out.mono ?_
        rintro e u2 ⟨rfl, rfl⟩
        go_wp2_with fail
        refine CL.out.mono ?_
        rintro e u3 ⟨rfl, rfl⟩
        go_wp2_with fail
        refine CA.out.mono ?_
        rintro e u4 ⟨rfl, rfl⟩
        clear CH CI CL CA
        cases dx
        all_goals (
          go_wp2
          go_ret
          exact ⟨by simp, s, _, _, hges, ⟨i, hi, HSB.out⟩, HT5.out, HADD.out⟩)
      · have CA := hide (at_above s T' jj w5 HSA5.out (by omega) (by omega))
        generalize (lst T').length = n' at *
        refine CH.out.mono ?_
        rintro e u1 ⟨rfl, rfl⟩
        go_wp2_with fail
        refine CI.out.mono ?_
        rintro e u2 ⟨rfl, rfl⟩
        go_wp2_with fail
        refine CL.out.mono ?_
        rintro e u3 ⟨rfl, rfl⟩
        go_wp2_with fail
        refine CA.out.mono ?_
        rintro e u4 ⟨rfl, rfl⟩
        clear CH CI CL CA
        cases dx
        all_goals (
          go_wp2
          go_ret
          exact ⟨by simp, s, _, _, hges, ⟨i, hi, HSB.out⟩, HT5.out, HADD.out⟩)
end Go.Proofs.YtkncboinfcnklaaGreatDoor.WI

namespace Go.Proofs.YtkncboinfcnklaaGreatDoor.Str
open Go.RowKit Go.Deep Go.Proofs.YtkncboinfcnklaaGreatDoor.Mth

theorem put_ins {l m : List ByteArray} {x : ByteArray} (hl : l.Pairwise ltS) (hx : ¬ x ∈ l) (h : Put ltS l x m) : m = ins ltS x l :=
  up_ext sordS.irr sordS.tr h.1 (ins_up sordS x l hl hx) fun z => by rw [h.2.1, ins_mem]

set_option maxRecDepth 100000 in
set_option maxHeartbeats 4000000 in
theorem add_step (w : World) (B wb : Nat) (g0 g1 g2 g3 q4 q6 k8 k9 k10 k11 k12 k13 k14 iv rv : Value) (ns M : Nat) (sb : Nat → Nat) (Tr : Nat → BT ByteArray) (rr : Nat → Value) (A Bv Cv : Int) (S T : ByteArray) (hblk : w.heap[wb]? = some (Obj.cells #[g0, g1, g2, g3, q4, iv, q6, rv, k8, k9, k10, k11, k12, k13, k14] 91 (0, 0))) (hI : SSet w B iv rv ns M sb Tr rr) (hB : B ≤ w.heap.size) (hns : 0 < ns) (hn2 : ns ≤ 4194304) (hM : M ≤ 4000000) (hA0 : -9223372036854775808 ≤ A) (hA1 : A < 9223372036854775808) (hC0 : -9223372036854775808 ≤ Cv) (hC1 : Cv < 9223372036854775808) :
    Calls Tryz.prog 108 #[.pointer (some ⟨wb, 0, none⟩), .agg #[.int .i64 4, .int .i64 A, .int .i64 Bv, .int .i64 Cv, .string S, .string T]] w fun e w' => e = .returned (.bool true) ∧ ∃ s Tr' rr', B ≤ s ∧ (∃ i, i < ns ∧ sb i = s) ∧ Tch (fun k => k = s ∨ some k = rv.ownBlock) w w' ∧ SSet w' B iv rv ns (M + 1) sb Tr' rr' := by
  have hwl : wb < w.heap.size := (Array.getElem?_eq_some_iff.1 hblk).1
  have HO := hide (opCells w 4 A Bv Cv S T)
  have HB1 := hide (below_alloc w (Obj.cells #[.int .i64 4, .int .i64 A, .int .i64 Bv, .int .i64 Cv, .string S, .string T] 94))
  have hlt1 : w.heap.size < (w.alloc (Obj.cells #[.int .i64 4, .int .i64 A, .int .i64 Bv, .int .i64 Cv, .string S, .string T] 94)).heap.size := by simp
  obtain ⟨ia, ic, rfl, hic, hicm⟩ := own_slice hI.row
  obtain ⟨ra, rc, rfl, hrc, hrcm⟩ := own_slice hI.ref
  unfold maxLen at hicm hrcm
  obtain ⟨r, hr0, hr1, hpk⟩ := pick_fix A (ns : Int) hA0 hA1 (by omega) (by omega)
  obtain ⟨i, rfl⟩ := Int.eq_ofNat_of_zero_le hr0
  have hi : i < ns := by omega
  have HII := hide hI
  have HBLK := hide hblk
  have HPK := hide hpk
  have cw1 := (cell_of (j := 5) (u := .slice ia ns ic) ((HB1.out.block wb hwl).trans hblk) rfl).1
  have cA := (cell_of (j := 1) (u := .int .i64 A) HO.out rfl).1
  clear hI hblk hpk
  go_enter Tryz.func108, Tryz.ntmps108
  go_wp2_with fail
  generalize w.alloc (Obj.cells #[.int .i64 4, .int .i64 A, .int .i64 Bv, .int .i64 Cv, .string S, .string T] 94) = w1 at *
  have d1 := cell_regrown cw1
  have d2 := cell_regrown cA
  have CP := hide (fun d os => Calls.regrown_of (w := w1) (d := d) (os := os) ((HPK.out (Sort.grow (redrawn w1 d) os)).mono fun e w' q => ⟨q.1, by rw [q.2]; exact Below.refl _ _⟩))
  clear cw1 cA
  refine wp_region_quiet_below (by kernel_rfl) (by kernel_rfl) ?_
  repeat (go_big_quiet_step (first | (go_at_call 15; exact CP.out _ _)))
  refine wpQuiet_nil ?_
  intro _ hw'
  obtain ⟨⟨dq, osq⟩, hw''⟩ := hw'
  subst hw''
  have HBQ := hide (below_regrown w1 dq osq)
  clear d1 d2 CP
  generalize Sort.grow (redrawn w1 dq) osq = w2 at *
  have hs1 := HB1.out.size
  have hs2 := HBQ.out.size
  have HB02 : Hid (Below w.heap.size w w2) := HB1.out.trans (HBQ.out.mono (by omega))
  have HI2 := hide (HII.out.below HB02.out)
  have HBL2 := hide ((HB02.out.block wb hwl).trans HBLK.out)
  have HO2 := hide ((HBQ.out.block w.heap.size hlt1).trans HO.out)
  obtain ⟨c4, _⟩ := cell_of (j := 5) (u := .slice ia ns ic) HBL2.out rfl
  obtain ⟨c6, _⟩ := cell_of (j := 7) (u := .slice ra ns rc) HBL2.out rfl
  obtain ⟨o0, _⟩ := cell_of (j := 0) (u := .int .i64 4) HO2.out rfl
  obtain ⟨o2, _⟩ := cell_of (j := 2) (u := .int .i64 Bv) HO2.out rfl
  obtain ⟨o3, _⟩ := cell_of (j := 3) (u := .int .i64 Cv) HO2.out rfl
  obtain ⟨o4, _⟩ := cell_of (j := 4) (u := .string S) HO2.out rfl
  obtain ⟨o5, _⟩ := cell_of (j := 5) (u := .string T) HO2.out rfl
  obtain ⟨gi, rfl⟩ := own_first HI2.out.row (by omega)
  obtain ⟨gr, rfl⟩ := own_first HI2.out.ref (by omega)
  have p1 := row_cell HI2.out.row hi
  have p2 := row_cell HI2.out.ref hi
  have HSA := hide (HI2.out.one i hi)
  have HOW := hide (HI2.out.own i hi)
  have hlen := HI2.out.len i hi
  obtain ⟨la, lc, hrv, _, hlcm⟩ := own_slice HOW.out
  rw [hrv] at p2 HOW
  have HRD := hide (rd_own HOW.out)
  generalize hsb : sb i = s at *
  generalize hTT : Tr i = TT at *
  have HSB := hide hsb
  have HTT := hide hTT
  have HRV := hide hrv
  clear hsb hTT hrv
  obtain ⟨D2, hD2⟩ := HI2.out.typ i hi
  rw [HSB.out] at hD2
  have hges := HI2.out.ge i hi
  rw [HSB.out] at hges
  have CA0 := hide (add_any s TT S w2 HSA.out (by omega))
  go_wp2_with fail
  refine CA0.out.mono ?_
  rintro e w3 ⟨rfl, T', hS3, hg3, hin, hout, htyp⟩
  obtain ⟨D3, hD3⟩ := htyp _ _ hD2
  have hs3 := hg3.size
  have k3 : ∀ (k : Nat) D t, t ≠ 289 → w2.heap[k]? = some (Obj.cells D t (0, 0)) → w3.heap[k]? = some (Obj.cells D t (0, 0)) := by
    intro k D t hne hD
    refine (hg3.block k (Array.getElem?_eq_some_iff.1 hD).1 (fun q => ?_)).trans hD
    injection q with q
    subst q
    rw [hD2] at hD
    injection hD with hD
    injection hD with _ hD _
    exact hne hD.symm
  have HO3 := hide (k3 _ _ _ (by decide) HO2.out)
  have HBL3 := hide (k3 _ _ _ (by decide) HBL2.out)
  have HOW3 : Hid (w3.ownsRow B 9 1 (.slice la (lst TT).length lc) (lst TT).length ((lst TT).map eS)) := own_same HOW.out (fun g hg => by
    obtain ⟨_, _, D, hD⟩ := own_block HOW.out hg
    exact (k3 g D _ (by decide) hD).trans hD.symm)
  have CP0 := hide (putRow_core la lc (lst TT) S w3 (rd_own HOW3.out) (by omega))
  obtain ⟨o2', _⟩ := cell_of (j := 4) (u := .string S) HO3.out rfl
  have HS3 := hide hS3
  have HG3 := hide hg3
  have HIN := hide hin
  have HOUT := hide hout
  have HD3 := hide hD3
  have HUP := hide HSA.out.2.2.2
  clear CA0 hS3 hg3 hin hout htyp k3 c4 o0 o2 o3 o4 o5 p1 p2 hD3
  by_cases hx : S ∈ lst TT
  · rw [memD_true hx]
    have CP1 := CP0
    rw [memD_true hx] at CP1
    have HX := hide hx
    clear CP0 hx
    go_wp2_with fail
    refine CP1.out.mono ?_
    rintro e w4 ⟨v', rfl, hb4, hv4⟩
    have hv5 : v' = .slice la (lst TT).length lc := by
      rcases hv4 with q | q
      · exact q.1
      · exact absurd HX.out q.1
    subst hv5
    have hle : lst T' = lst TT := HIN.out HX.out
    have hn : (lst TT).length = (lst T').length := by rw [hle]
    have HLE := hide hle
    clear hle hv4
    generalize (lst TT).length = nT at *
    subst hn
    have HB4 := hide hb4
    have hs4 := hb4.size
    have HBL4 := hide ((hb4.block wb (by omega)).trans HBL3.out)
    have HO4 := hide ((hb4.block w.heap.size (by omega)).trans HO3.out)
    obtain ⟨c6', _⟩ := cell_of (j := 7) (u := .slice (some ⟨gr, 0, none⟩) ns rc) HBL4.out rfl
    have HADD := hide (SSet.added (i := i) (T' := T') (v' := .slice la (lst T').length lc) (M' := M + 1) HI2.out hi (by omega) (by rw [HSB.out]; exact HG3.out) (by rw [HSB.out]; exact HS3.out) (by rw [HSB.out]; exact ⟨D3, HD3.out⟩) hb4 (Or.inl ⟨HRV.out.symm, by rw [HTT.out]; exact HLE.out⟩) (by omega) (by omega))
    obtain ⟨_, hgl, Dg, hDg⟩ := own_block HI2.out.ref (g := gr) (by simp [Value.ownBlock])
    have hDg4 : w4.heap[gr]? = some (Obj.cells Dg 58 (0, 0)) := by
      rw [hb4.block gr (by omega), HG3.out.block gr hgl (fun q => by
        injection q with q
        subst q
        rw [hD2] at hDg
        injection hDg with hDg
        injection hDg with _ hDg _
        exact absurd hDg (by decide))]
      exact hDg
    have r4 := HADD.out.ref
    have hcell4 : ∃ y, w4.cell? ⟨gr, i, none⟩ = some y := by
      have q := row_cell HI2.out.ref hi
      have e : w4.heap[gr]? = w2.heap[gr]? := hDg4.trans hDg.symm
      exact ⟨_, (World.cell?_of_block (w := w2) (a := ⟨gr, i, none⟩) e).trans q⟩
    obtain ⟨y4, hy4⟩ := hcell4
    have hf4 : w4.frozen? ⟨gr, i, none⟩ = false := by simp [World.frozen?, hDg4]
    have HO5 : Hid ((w4.setCell ⟨gr, i, none⟩ (.slice la (lst T').length lc)).heap[w.heap.size]? = some (Obj.cells #[.int .i64 4, .int .i64 A, .int .i64 Bv, .int .i64 Cv, .string S, .string T] 94 (0, 0))) := by
      show _ = _
      rw [set_other (fun q => by
        rw [q, hDg4] at HO4
        have HO4 := HO4.out
        injection HO4 with HO4
        injection HO4 with _ HO4 _
        exact absurd HO4 (by decide))]
      exact HO4.out
    have HT5 : Hid (Tch (fun k => k = s ∨ some k = (Value.slice (some ⟨gr, 0, none⟩) ns rc).ownBlock) w (w4.setCell ⟨gr, i, none⟩ (.slice la (lst T').length lc))) := by
      refine ⟨hb4.os.trans (HG3.out.os.trans HB02.out.os), hb4.tape.trans (HG3.out.tape.trans HB02.out.tape), hb4.output.trans (HG3.out.output.trans HB02.out.output), by simp; omega, fun k hk hn => ?_⟩
      rw [set_other (fun q => hn (Or.inr (by simp [Value.ownBlock, q]))), hb4.block k (by omega), HG3.out.block k (by omega) (fun q => hn (Or.inl (by injection q)))]
      exact HB02.out.block k hk
    have HSA5 : Hid (SetAt (w4.setCell ⟨gr, i, none⟩ (.slice la (lst T').length lc)) s T') := by
      have := HADD.out.one i hi
      simp only [↓reduceIte] at this
      rwa [HSB.out] at this
    have HRD5 : Hid (Rd (w4.setCell ⟨gr, i, none⟩ (.slice la (lst T').length lc)) (.slice la (lst T').length lc) (lst T')) := by
      have := HADD.out.own i hi
      simp only [↓reduceIte] at this
      exact rd_own this
    clear hb4 CP1 r4 hgl hDg HBL3 HO3 HBL2 HO2 o2'
    obtain ⟨o2, _⟩ := cell_of (j := 2) (u := .int .i64 Bv) HO5.out rfl
    obtain ⟨o3, _⟩ := cell_of (j := 3) (u := .int .i64 Cv) HO5.out rfl
    obtain ⟨o4, _⟩ := cell_of (j := 4) (u := .string S) HO5.out rfl
    go_wp2_with fail
    clear hy4 hf4 c6'
    generalize hw5 : w4.setCell ⟨gr, i, none⟩ (.slice la (lst T').length lc) = w5 at *
    clear hw5
    have CH := hide (has_any s T' S w5 HSA5.out)
    have CI := hide (in_any S HRD5.out)
    have CL := hide (len_any s T' w5 HSA5.out)
    generalize hdx : memD S (lst T') = dx at *
    clear hdx
    by_cases hc0 : Cv < 0
    · have CA := hide (at_below s Cv w5 hc0)
      have z1 : decide (0 ≤ Cv) = false := by simp; omega
      generalize (lst T').length = n' at *
      refine CH.out.mono ?_
      rintro e u1 ⟨rfl, rfl⟩
      go_wp2_with fail
      refine CI.out.mono ?_
      rintro e u2 ⟨rfl, rfl⟩
      go_wp2_with fail
      refine CL.out.mono ?_
      rintro e u3 ⟨rfl, rfl⟩
      go_wp2_with fail
      refine CA.out.mono ?_
      rintro e u4 ⟨rfl, rfl⟩
      clear CH CI CL CA
      cases dx
      all_goals (
        go_wp2
        go_ret
        exact ⟨by simp, s, _, _, hges, ⟨i, hi, HSB.out⟩, HT5.out, HADD.out⟩)
    · obtain ⟨jj, rfl⟩ := Int.eq_ofNat_of_zero_le (Int.not_lt.1 hc0)
      by_cases hc1 : jj < (lst T').length
      · have CA := hide (at_in s T' jj w5 HSA5.out hc1 (by omega))
        obtain ⟨b, o, hla, _, cell⟩ := rd_at HRD5.out jj hc1
        subst hla
        generalize (lst T').getD jj ByteArray.empty = y at *
        generalize (lst T').length = n' at *
        refine CH.out.mono ?_
        rintro e u1 ⟨rfl, rfl⟩
        go_wp2_with fail
        refine CI.out.mono ?_
        rintro e u2 ⟨rfl, rfl⟩
        go_wp2_with fail
        refine CL.out.mono ?_
        rintro e u3 ⟨rfl, rfl⟩
        go_wp2_with fail
        refine CA.out.mono ?_
        rintro e u4 ⟨rfl, rfl⟩
        clear CH CI CL CA
        cases dx
        all_goals (
          go_wp2
          go_ret
          exact ⟨by simp, s, _, _, hges, ⟨i, hi, HSB.out⟩, HT5.out, HADD.out⟩)
      · have CA := hide (at_above s T' jj w5 HSA5.out (by omega) (by omega))
        generalize (lst T').length = n' at *
        refine CH.out.mono ?_
        rintro e u1 ⟨rfl, rfl⟩
        go_wp2_with fail
        refine CI.out.mono ?_
        rintro e u2 ⟨rfl, rfl⟩
        go_wp2_with fail
        refine CL.out.mono ?_
        rintro e u3 ⟨rfl, rfl⟩
        go_wp2_with fail
        refine CA.out.mono ?_
        rintro e u4 ⟨rfl, rfl⟩
        clear CH CI CL CA
        cases dx
        all_goals (
          go_wp2
          go_ret
          exact ⟨by simp, s, _, _, hges, ⟨i, hi, HSB.out⟩, HT5.out, HADD.out⟩)
  · rw [memD_false hx]
    have CP1 := CP0
    rw [memD_false hx] at CP1
    have HX := hide hx
    clear CP0 hx
    go_wp2_with fail
    refine CP1.out.mono ?_
    rintro e w4 ⟨v', rfl, hb4, hv4⟩
    have hcur : Cur w3 w4 v' (lst T') := by
      rcases hv4 with q | q
      · exact absurd q.2 HX.out
      · rw [put_ins HUP.out HX.out (HOUT.out HX.out)]
        exact q.2
    have HLP : Hid ((lst T').length = (lst TT).length + 1) := (HOUT.out HX.out).2.2
    obtain ⟨va, vc, rfl, _, hvcm⟩ := own_slice hcur.2
    have HCUR := hide hcur
    have hlp : (lst T').length ≤ M + 1 := by rw [HLP.out]; omega
    clear hcur
    have HB4 := hide hb4
    have hs4 := hb4.size
    have HBL4 := hide ((hb4.block wb (by omega)).trans HBL3.out)
    have HO4 := hide ((hb4.block w.heap.size (by omega)).trans HO3.out)
    obtain ⟨c6', _⟩ := cell_of (j := 7) (u := .slice (some ⟨gr, 0, none⟩) ns rc) HBL4.out rfl
    have HADD := hide (SSet.added (i := i) (T' := T') (v' := .slice va (lst T').length vc) (M' := M + 1) HI2.out hi (by omega) (by rw [HSB.out]; exact HG3.out) (by rw [HSB.out]; exact HS3.out) (by rw [HSB.out]; exact ⟨D3, HD3.out⟩) hb4 (Or.inr HCUR.out) (by omega) (by rw [HLP.out]; omega))
    obtain ⟨_, hgl, Dg, hDg⟩ := own_block HI2.out.ref (g := gr) (by simp [Value.ownBlock])
    have hDg4 : w4.heap[gr]? = some (Obj.cells Dg 58 (0, 0)) := by
      rw [hb4.block gr (by omega), HG3.out.block gr hgl (fun q => by
        injection q with q
        subst q
        rw [hD2] at hDg
        injection hDg with hDg
        injection hDg with _ hDg _
        exact absurd hDg (by decide))]
      exact hDg
    have r4 := HADD.out.ref
    have hcell4 : ∃ y, w4.cell? ⟨gr, i, none⟩ = some y := by
      have q := row_cell HI2.out.ref hi
      have e : w4.heap[gr]? = w2.heap[gr]? := hDg4.trans hDg.symm
      exact ⟨_, (World.cell?_of_block (w := w2) (a := ⟨gr, i, none⟩) e).trans q⟩
    obtain ⟨y4, hy4⟩ := hcell4
    have hf4 : w4.frozen? ⟨gr, i, none⟩ = false := by simp [World.frozen?, hDg4]
    have HO5 : Hid ((w4.setCell ⟨gr, i, none⟩ (.slice va (lst T').length vc)).heap[w.heap.size]? = some (Obj.cells #[.int .i64 4, .int .i64 A, .int .i64 Bv, .int .i64 Cv, .string S, .string T] 94 (0, 0))) := by
      show _ = _
      rw [set_other (fun q => by
        rw [q, hDg4] at HO4
        have HO4 := HO4.out
        injection HO4 with HO4
        injection HO4 with _ HO4 _
        exact absurd HO4 (by decide))]
      exact HO4.out
    have HT5 : Hid (Tch (fun k => k = s ∨ some k = (Value.slice (some ⟨gr, 0, none⟩) ns rc).ownBlock) w (w4.setCell ⟨gr, i, none⟩ (.slice va (lst T').length vc))) := by
      refine ⟨hb4.os.trans (HG3.out.os.trans HB02.out.os), hb4.tape.trans (HG3.out.tape.trans HB02.out.tape), hb4.output.trans (HG3.out.output.trans HB02.out.output), by simp; omega, fun k hk hn => ?_⟩
      rw [set_other (fun q => hn (Or.inr (by simp [Value.ownBlock, q]))), hb4.block k (by omega), HG3.out.block k (by omega) (fun q => hn (Or.inl (by injection q)))]
      exact HB02.out.block k hk
    have HSA5 : Hid (SetAt (w4.setCell ⟨gr, i, none⟩ (.slice va (lst T').length vc)) s T') := by
      have := HADD.out.one i hi
      simp only [↓reduceIte] at this
      rwa [HSB.out] at this
    have HRD5 : Hid (Rd (w4.setCell ⟨gr, i, none⟩ (.slice va (lst T').length vc)) (.slice va (lst T').length vc) (lst T')) := by
      have := HADD.out.own i hi
      simp only [↓reduceIte] at this
      exact rd_own this
    clear hb4 hv4 CP1 r4 hgl hDg HBL3 HO3 HBL2 HO2 o2'
    obtain ⟨o2, _⟩ := cell_of (j := 2) (u := .int .i64 Bv) HO5.out rfl
    obtain ⟨o3, _⟩ := cell_of (j := 3) (u := .int .i64 Cv) HO5.out rfl
    obtain ⟨o4, _⟩ := cell_of (j := 4) (u := .string S) HO5.out rfl
    go_wp2_with fail
    clear hy4 hf4 c6'
    generalize hw5 : w4.setCell ⟨gr, i, none⟩ (.slice va (lst T').length vc) = w5 at *
    clear hw5
    have CH := hide (has_any s T' S w5 HSA5.out)
    have CI := hide (in_any S HRD5.out)
    have CL := hide (len_any s T' w5 HSA5.out)
    generalize hdx : memD S (lst T') = dx at *
    clear hdx
    by_cases hc0 : Cv < 0
    · have CA := hide (at_below s Cv w5 hc0)
      have z1 : decide (0 ≤ Cv) = false := by simp; omega
      generalize (lst T').length = n' at *
      refine CH.out.mono ?_
      rintro e u1 ⟨rfl, rfl⟩
      go_wp2_with fail
      refine CI.out.mono ?_
      rintro e u2 ⟨rfl, rfl⟩
      go_wp2_with fail
      refine CL.out.mono ?_
      rintro e u3 ⟨rfl, rfl⟩
      go_wp2_with fail
      refine CA.out.mono ?_
      rintro e u4 ⟨rfl, rfl⟩
      clear CH CI CL CA
      cases dx
      all_goals (
        go_wp2
        go_ret
        exact ⟨by simp, s, _, _, hges, ⟨i, hi, HSB.out⟩, HT5.out, HADD.out⟩)
    · obtain ⟨jj, rfl⟩ := Int.eq_ofNat_of_zero_le (Int.not_lt.1 hc0)
      by_cases hc1 : jj < (lst T').length
      · have CA := hide (at_in s T' jj w5 HSA5.out hc1 (by omega))
        obtain ⟨b, o, hla, _, cell⟩ := rd_at HRD5.out jj hc1
        subst hla
        generalize (lst T').getD jj ByteArray.empty = y at *
        generalize (lst T').length = n' at *
        refine CH.out.mono ?_
        rintro e u1 ⟨rfl, rfl⟩
        go_wp2_with fail
        refine CI.out.mono ?_
        rintro e u2 ⟨rfl, rfl⟩
        go_wp2_with fail
        refine CL.out.mono ?_
        rintro e u3 ⟨rfl, rfl⟩
        go_wp2_with fail
        refine CA.out.mono ?_
        rintro e u4 ⟨rfl, rfl⟩
        clear CH CI CL CA
        cases dx
        all_goals (
          go_wp2
          go_ret
          exact ⟨by simp, s, _, _, hges, ⟨i, hi, HSB.out⟩, HT5.out, HADD.out⟩)
      · have CA := hide (at_above s T' jj w5 HSA5.out (by omega) (by omega))
        generalize (lst T').length = n' at *
        refine CH.out.mono ?_
        rintro e u1 ⟨rfl, rfl⟩
        go_wp2_with fail
        refine CI.out.mono ?_
        rintro e u2 ⟨rfl, rfl⟩
        go_wp2_with fail
        refine CL.out.mono ?_
        rintro e u3 ⟨rfl, rfl⟩
        go_wp2_with fail
        refine CA.out.mono ?_
        rintro e u4 ⟨rfl, rfl⟩
        clear CH CI CL CA
        cases dx
        all_goals (
          go_wp2
          go_ret
          exact ⟨by simp, s, _, _, hges, ⟨i, hi, HSB.out⟩, HT5.out, HADD.out⟩)
end Go.Proofs.YtkncboinfcnklaaGreatDoor.Str
