import Derived.Test.YtdcnfgllghiedaaGreatDoorR6
import Derived.Laws.Strings2
namespace Go.Proofs.YtdcnfgllghiedaaGreatDoor
open Go.RowKit Go.Deep Go.Proofs.YtdcnfgllghiedaaGreatDoor.Mth

theorem laid_any (v : Value) (l : List Ent) (w : World) (h : RdE w v l) (hS : Seg l) :
    Calls Tryz.prog 103 #[v] w fun e w' => e = .returned (.string (strOfNums (pk l))) ∧ Below w.heap.size w w' := by
  obtain ⟨a, c, rfl, _, _⟩ := rdE_len h
  exact laid_core a c l w h hS

set_option maxHeartbeats 400000 in
theorem refPack_yes (v : Value) (l : List Ent) (w : World) (h : RdE w v l) (hS : Seg l) :
    Calls Tryz.prog 63 #[v] w fun e w' => e = .returned (.tuple #[.string (strOfNums (pk l)), .int .i64 0]) ∧ Below w.heap.size w w' := by
  have CI := hide (refIsSeg_any v l w h)
  rw [segD_yes.2 hS] at CI
  have HR := hide h
  have HS := hide hS
  clear h hS
  go_enter Tryz.func63, Tryz.ntmps63
  go_wp2_with fail
  refine CI.out.mono ?_
  rintro e w1 ⟨rfl, hb1⟩
  have HB := hide hb1
  have CL := hide (laid_any v l w1 (HR.out.below hb1) HS.out)
  clear hb1 CI
  go_wp2_with fail
  refine CL.out.mono ?_
  rintro e w2 ⟨rfl, hb2⟩
  have HB2 := hide (HB.out.trans (hb2.mono HB.out.size))
  clear hb2 CL
  go_wp2
  go_ret2
  exact ⟨rfl, HB2.out⟩

set_option maxHeartbeats 400000 in
theorem refPack_no (v : Value) (l : List Ent) (w : World) (h : RdE w v l) (hS : ¬ Seg l) :
    Calls Tryz.prog 63 #[v] w fun e w' => e = .returned (.tuple #[.string ⟨#[]⟩, .int .i64 2]) ∧ Below w.heap.size w w' := by
  have CI := hide (refIsSeg_any v l w h)
  rw [show segD l = false from Bool.eq_false_iff.2 (fun q => hS (segD_yes.1 q))] at CI
  clear h hS
  go_enter Tryz.func63, Tryz.ntmps63
  go_wp2_with fail
  refine CI.out.mono ?_
  rintro e w1 ⟨rfl, hb1⟩
  have HB := hide hb1
  clear hb1 CI
  go_wp2
  go_ret2
  exact ⟨rfl, HB.out⟩

theorem slice_at (s : ByteArray) (i j : Nat) (hij : i ≤ j) (hj : j ≤ s.size) (w : World) : (Instr.slice 9 (.string s) (some (.int .i64 (i : Int))) (some (.int .i64 (j : Int))) none).run Tryz.prog w = .ok (.string (strOfNums (((tb s).drop i).take (j - i)))) w := by
  rw [run_slice_string (P := Tryz.prog) w 9 s .i64 .i64 (i : Int) (j : Int) Tryz.underlying9 (by omega) (by omega) (by omega)]
  congr 2
  apply bytes_ext
  rw [Int.toNat_natCast, Int.toNat_natCast, ByteArray.data_extract, Array.toList_extract, List.extract_eq_take_drop]
  have : strOfNums (((tb s).drop i).take (j - i)) = ofL ((s.data.toList.drop i).take (j - i)) := by
    unfold strOfNums tb ofL
    rw [← List.map_drop, ← List.map_take, List.map_map]
    congr 2
    conv => rhs; rw [← List.map_id ((s.data.toList.drop i).take (j - i))]
    apply List.map_congr_left
    intro u _
    simp
  rw [this, ofL_data]

/-- What the document's reading comes to. -/
def RefPost (w : World) (l : List Int) (e : Ending) (w' : World) : Prop := (isPk l ∧ ∃ v', e = .returned (.tuple #[v', .int .i64 0]) ∧ CurE w w' v' (rdAll l)) ∨ (¬ isPk l ∧ e = .returned (.tuple #[.slice none 0 0, .int .i64 2]) ∧ Below w.heap.size w w')

theorem curE_drewN {w0 w : World} {v : Value} {l : List Ent} {n : Nat} (h : CurE w0 w v l) : CurE w0 (w.drewN n) v l := ⟨⟨h.1.os, h.1.tape, h.1.output, h.1.size, h.1.block⟩, h.2⟩

theorem step_own {P : Program} (w : World) {ops : Array Oper} {o : Oper} {a : Act} {K : Act → World → Prop} {Q : Exit → Act → World → Prop} {E : Prop} (hgd : o.guard = none) (s x : Operand) (t : TypeId)
    (ho : o.op = .call { callee := .builtin .append, args := #[s, x], argTypes := #[t, t] })
    (base : Nat) (e : TypeId) (i : TypeInfo) (z : Value) (size bytes : Nat) (ht : P.underlying t = some (.slice e)) (hi : P.info? e = some i) (hz : i.zero = some z)
    (hsize : i.size = size) (hby : i.bytes = bytes) (hzs : z.cells.size = size) (hsz : 0 < size)
    (v : Value) (n : Nat) (xs : List Value) (hs : a.eval s = v) (hown : w.ownsRow base e size v n xs)
    (ad : Addr) (m c : Nat) (news : List Value) (hx : a.eval x = .slice (some ad) m c) (hl : news.length = m * size) (hnews : ∀ j u, news[j]? = some u → w.cell? (ad.add j) = some u) (h1 : ∀ u ∈ news, u.oneCell' = true)
    (h63 : n + m ≤ maxLen) (hbytes : (n + m) * bytes ≤ 140737488355328) (hbase : base ≤ w.heap.size)
    (h : ∀ v' w', w'.ownsRow base e size v' (n + m) (xs ++ news) → w.grownBy w' v.ownBlock → K (a.put o.dst v') w') :
    if Region.wanted o (yielded ops a.tmps) = true then Oper.wp P o a w K Q else E := by
  have hw : Region.wanted o (yielded ops a.tmps) = true := by simp [Region.wanted, hgd]
  rw [if_pos hw]
  exact wp_append_own w s x t ho base e i z size bytes ht hi hz hsize hby hzs hsz v n xs hs hown ad m c news hx hl hnews h1 h63 hbytes hbase fun v' w' h2 h3 _ => h v' w' h2 h3

set_option maxRecDepth 100000 in
set_option maxHeartbeats 1000000 in
theorem refUnpack_any (s : ByteArray) (w : World) (hs : s.size ≤ 1048576) :
    Calls Tryz.prog 119 #[.string s] w (RefPost w (tb s)) := by
  have HL := hide (tb_len s)
  have HBT := hide (tb_bts s)
  obtain ⟨i0, hi0, hz0, hz1, hz2⟩ := info_parts Tryz.info66
  have hn2 := rnum_bd2 (tb_bts s)
  obtain ⟨N, hN⟩ := Int.eq_ofNat_of_zero_le hn2.1
  have HREF : Hid (∀ l, (refRead N ((tb s).drop 2) = some l ∧ Seg l ∧ pk l = tb s) ↔ (isPk (tb s) ∧ rdAll (tb s) = l)) := by
    intro l
    have := ref_isPk (tb s) l
    rwa [hN, Int.toNat_natCast] at this
  have hNb : N < 65536 := by omega
  have CN0 := hide (refNumber_any s 0 2 w hs (by omega) (by omega))
  rw [List.drop_zero, hN] at CN0
  clear hn2 hN
  go_enter Tryz.func119, Tryz.ntmps119
  go_wp2_with (first | (go_at_call 197; refine CN0.out.mono ?_; rintro e w' ⟨rfl, hw⟩; rw [hw]; clear hw w'))
  clear CN0
  go_loopw [4, 5, 6] (fun lv av nv wr => ∃ (r a : Nat) (done : List Ent), nv = .int .i64 r ∧ r < 65536 ∧ av = .int .i64 a ∧ a ≤ 1048578 ∧ 17 * done.length + 2 ≤ a ∧ CurE w wr lv done ∧ refRead N ((tb s).drop 2) = (refRead r ((tb s).drop a)).map (done ++ ·)) (fun _ _ nv _ => (intOf nv).toNat)
  case atStart => exact ⟨N, 2, [], rfl, hNb, rfl, by omega, by simp, ⟨Below.refl _ _, World.ownsRow_nil _ _ _ _⟩, by simp⟩
  case round =>
    obtain ⟨r, a, done, rfl, hr, rfl, ha, hdl, hcur, href⟩ := hrel
    have HC := hide hcur
    have HF := hide href
    have hsz := hcur.1.size
    clear hcur href
    by_cases hgo : 0 < r ∧ a < s.size
    · obtain ⟨hr0, hal⟩ := hgo
      obtain ⟨r', rfl⟩ : ∃ r', r = r' + 1 := ⟨r - 1, by omega⟩
      have hz := rnum_bd1 (bts_drop HBT.out (a + 16))
      obtain ⟨zn, hzn⟩ := Int.eq_ofNat_of_zero_le hz.1
      have hzb : zn < 256 := by omega
      have CN1 := hide (refNumber_any s (a + 16) 1 wr hs (by omega) (by omega))
      rw [hzn, Int.natCast_add] at CN1
      have hne : (tb s).drop a ≠ [] := by
        intro q
        have := congrArg List.length q
        rw [List.length_drop, HL.out] at this
        simp at this
        omega
      have hrr := HF.out
      rw [refRead, if_neg hne, List.drop_drop, hzn, List.length_drop, HL.out] at hrr
      by_cases hlong : s.size < a + 17 + zn
      · rw [if_pos (by omega), Option.map_none] at hrr
        have hnp : Hid (¬ isPk (tb s)) := by
          intro q
          have := ((HREF.out (rdAll (tb s))).2 ⟨q, rfl⟩).1
          rw [hrr] at this
          cases this
        have hl2 : (s.size : Int) < (a : Int) + 17 + zn := by omega
        clear hrr hne hz hzn
        go_wp2_with (first | (go_at_call 197; refine CN1.out.mono ?_; rintro e w' ⟨rfl, hw⟩; rw [hw]; clear hw w'))
        go_ret2
        exact Or.inr ⟨hnp.out, rfl, HC.out.1⟩
      · have CA := hide (fun n => refNumber_any s a 8 (wr.drewN n) hs (by omega) (by omega))
        have CB := hide (fun n => refNumber_any s (a + 8) 8 (wr.drewN n) hs (by omega) (by omega))
        have hsl := fun w => slice_at s (a + 17) (a + 17 + zn) (by omega) (by omega) w
        rw [show a + 17 + zn - (a + 17) = zn by omega] at hsl
        rw [show ((a + 17 + zn : Nat) : Int) = (a : Int) + 17 + (zn : Int) by omega, show ((a + 17 : Nat) : Int) = (a : Int) + 17 by omega] at hsl
        rw [show ((a + 8 : Nat) : Int) = (a : Int) + 8 by omega] at CB
        rw [if_neg (by omega), List.drop_drop, Int.toNat_natCast, List.drop_drop, List.drop_drop] at hrr
        have hl2 : ¬ ((s.size : Int) < (a : Int) + 17 + zn) := by omega
        generalize rnum ((tb s).drop a) 8 = E1 at *
        generalize rnum ((tb s).drop (a + 8)) 8 = E2 at *
        generalize strOfNums (((tb s).drop (a + 17)).take zn) = E3 at *
        have HRR := hide hrr
        have hw1 : IntKind.i64.wrap ((a : Int) + 17) = (a : Int) + 17 := by rw [IntKind.wrap_i64]; omega
        have hw2 : IntKind.i64.wrap ((a : Int) + 17 + (zn : Int)) = (a : Int) + 17 + (zn : Int) := by rw [IntKind.wrap_i64]; omega
        have hw3 : IntKind.i64.wrap ((a : Int) + 8) = (a : Int) + 8 := by rw [IntKind.wrap_i64]; omega
        clear hrr hne hz hzn
        go_wp2_with (first | (go_at_call 197; refine CN1.out.mono ?_; rintro e w' ⟨rfl, hw⟩; rw [hw]; clear hw w'))
        go_region_held3 (fun _ => True) (exact trivial)
          (first
            | (go_at_call_of 197 (Value.int IntKind.i64 (a : Int)); refine (CA.out _).mono ?_; rintro e w' ⟨rfl, hw⟩; rw [hw]; clear hw w')
            | (go_at_call 197; refine (CB.out _).mono ?_; rintro e w' ⟨rfl, hw⟩; rw [hw]; clear hw w')
            | (refine step_own _ rfl _ _ 57 rfl w.heap.size 66 i0 (.agg #[.int .i64 0, .int .i64 0, .string ByteArray.empty]) 3 32 Tryz.underlying57 hi0 hz0 hz1 hz2 rfl (by decide) _ _ _ rfl ((curE_drewN HC.out).2.alloc _) ⟨wr.heap.size, 0, none⟩ 1 1 [.int .i64 E1, .int .i64 E2, .string E3] rfl rfl (cell_three_new _ _ _ _ _) (by intro u hu; simp at hu; rcases hu with rfl | rfl | rfl <;> rfl) (by unfold maxLen; omega) (by omega) (by simp; omega) ?_; intro v4 w4 hown4 hgrow4; have HC4 := hide (curE_append (e := ⟨E1, E2, E3⟩) (curE_drewN HC.out) hown4 hgrow4); clear hown4 hgrow4))
        have hdl2 : 17 * (done ++ [(⟨E1, E2, E3⟩ : Ent)]).length + 2 ≤ a + 17 + zn := by rw [List.length_append, List.length_singleton]; omega
        have HRR2 : Hid (refRead N ((tb s).drop 2) = (refRead r' ((tb s).drop (a + 17 + zn))).map ((done ++ [(⟨E1, E2, E3⟩ : Ent)]) ++ ·)) := by
          show _ = _
          rw [HRR.out, Option.map_map, Nat.add_assoc]
          congr 1
          funext x
          simp
        go_wp2
        go_roundw
        case rel => exact ⟨r', a + 17 + zn, _, by go_num, by omega, by go_num, by omega, hdl2, HC4.out, HRR2.out⟩
        case measure => simp [intOf]
    · have hrd : Hid (refRead N ((tb s).drop 2) = some done) := by
        show _ = _
        rw [HF.out]
        by_cases h0 : r = 0
        · subst h0; simp [refRead]
        · obtain ⟨r', rfl⟩ : ∃ r', r = r' + 1 := ⟨r - 1, by omega⟩
          have : (tb s).drop a = [] := List.drop_eq_nil_of_le (by rw [HL.out]; omega)
          rw [this]
          simp [refRead]
      have HRE := hide (rdE_own HC.out.2)
      by_cases hS : Seg done
      · have CP := hide (refPack_yes u4 done wr HRE.out hS)
        have HPB := hide (pk_bts done hS.2.1)
        by_cases hp : pk done = tb s
        · have hyes := hide ((HREF.out done).1 ⟨hrd.out, hS, hp⟩)
          have hes : strOfNums (pk done) = s := by rw [hp, of_tb]
          rw [hes] at CP
          have heq : (s.toList == s.toList) = true := by simp
          clear hS hp hes
          by_cases h0 : r = 0
          · subst h0
            clear hgo
            go_wp2_with (first | (go_at_call 63; refine CP.out.mono ?_; rintro e w2 ⟨rfl, hb2⟩; have HB2 := hide hb2; clear hb2))
            go_ret2
            refine Or.inl ⟨hyes.out.1, _, rfl, ?_⟩
            rw [hyes.out.2]
            exact curE_below HC.out HB2.out
          · have hge : ¬ a < s.size := fun q => hgo ⟨by omega, q⟩
            clear hgo
            go_wp2_with (first | (go_at_call 63; refine CP.out.mono ?_; rintro e w2 ⟨rfl, hb2⟩; have HB2 := hide hb2; clear hb2))
            go_ret2
            refine Or.inl ⟨hyes.out.1, _, rfl, ?_⟩
            rw [hyes.out.2]
            exact curE_below HC.out HB2.out
        · have hno : Hid (¬ isPk (tb s)) := by
            intro q
            have := (HREF.out (rdAll (tb s))).2 ⟨q, rfl⟩
            rw [hrd.out] at this
            obtain ⟨e1, _, e2⟩ := this
            injection e1 with e1
            rw [← e1] at e2
            exact hp e2
          have heq : ((strOfNums (pk done)).toList == s.toList) = false := by
            refine eqS_false (fun q => hp ?_)
            rw [← tb_of HPB.out, q]
          clear hS hp
          generalize strOfNums (pk done) = PS at *
          by_cases h0 : r = 0
          · subst h0
            clear hgo
            go_wp2_with (first | (go_at_call 63; refine CP.out.mono ?_; rintro e w2 ⟨rfl, hb2⟩; have HB2 := hide hb2; clear hb2))
            go_ret2
            exact Or.inr ⟨hno.out, rfl, HC.out.1.trans (HB2.out.mono HC.out.1.size)⟩
          · have hge : ¬ a < s.size := fun q => hgo ⟨by omega, q⟩
            clear hgo
            go_wp2_with (first | (go_at_call 63; refine CP.out.mono ?_; rintro e w2 ⟨rfl, hb2⟩; have HB2 := hide hb2; clear hb2))
            go_ret2
            exact Or.inr ⟨hno.out, rfl, HC.out.1.trans (HB2.out.mono HC.out.1.size)⟩
      · have CP := hide (refPack_no u4 done wr HRE.out hS)
        have hno : Hid (¬ isPk (tb s)) := by
          intro q
          have := (HREF.out (rdAll (tb s))).2 ⟨q, rfl⟩
          rw [hrd.out] at this
          obtain ⟨e1, e2, _⟩ := this
          injection e1 with e1
          rw [← e1] at e2
          exact hS e2
        clear hS
        by_cases h0 : r = 0
        · subst h0
          clear hgo
          go_wp2_with (first | (go_at_call 63; refine CP.out.mono ?_; rintro e w2 ⟨rfl, hb2⟩; have HB2 := hide hb2; clear hb2))
          go_ret2
          exact Or.inr ⟨hno.out, rfl, HC.out.1.trans (HB2.out.mono HC.out.1.size)⟩
        · have hge : ¬ a < s.size := fun q => hgo ⟨by omega, q⟩
          clear hgo
          go_wp2_with (first | (go_at_call 63; refine CP.out.mono ?_; rintro e w2 ⟨rfl, hb2⟩; have HB2 := hide hb2; clear hb2))
          go_ret2
          exact Or.inr ⟨hno.out, rfl, HC.out.1.trans (HB2.out.mono HC.out.1.size)⟩
end Go.Proofs.YtdcnfgllghiedaaGreatDoor
