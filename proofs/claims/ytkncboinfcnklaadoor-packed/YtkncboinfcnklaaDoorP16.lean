import Derived.Test.YtkncboinfcnklaaDoorP15
import Derived.Laws.Concat
namespace Go.Proofs.YtkncboinfcnklaaDoor
open Go.RowKit Go.Deep Go.Proofs.YtkncboinfcnklaaDoor.Mth

theorem pk_len {l : List Ent} (h : Seg l) : 8 ≤ (pk l).length ∧ (pk l).length ≤ 500004 := by
  have h1 := body_len h
  have h2 : (pk l).length = (body l).length + 4 := by unfold pk; rw [List.length_append, num_len]
  have h3 : 4 ≤ (body l).length := by
    unfold body hd idx
    simp only [List.length_append, num_len]
    omega
  omega

/-- Bytes out of a text. -/
theorem rdB_bytes (w : World) (s : ByteArray) (hs : s.size ≤ maxLen) : RdB (Lib.bytesWorld w 5 s) (.slice (some ⟨w.heap.size, 0, none⟩) s.size (grownCap w s.size 0 5)) (tb s) := by
  refine ⟨_, grownCap w s.size 0 5, by rw [tb_len], by rw [tb_len]; exact grownCap_ge _ _ _ _, grownCap_le_maxLen _ _ _ _ hs, Or.inr ⟨w.heap.size, 0, rfl, fun j hj => ?_⟩⟩
  rw [tb_len] at hj
  rw [Nat.zero_add, Lib.bytesWorld_cell w 5 s j hj, tb_get s j hj]

theorem bts_set {l : List Int} (h : Bts l) (i : Nat) {v : Int} (h0 : 0 ≤ v) (h1 : v < 256) : Bts (l.set i v) := by
  intro x hx
  rcases List.mem_or_eq_of_mem_set hx with q | q
  · exact h x q
  · subst q; exact ⟨h0, h1⟩

theorem below_set {B g i : Nat} {a w : World} (h : Below B a w) (hg : B ≤ g) (u : Value) : Below B a (w.setCell ⟨g, i, none⟩ u) := h.setCell hg u

theorem tb_app (a b : ByteArray) : tb (a ++ b) = tb a ++ tb b := by
  unfold tb
  rw [ByteArray.data_append, Array.toList_append, List.map_append]

theorem rdB_put {w : World} {g i c : Nat} {l : List Int} {z : Int} (h : RdB w (.slice (some ⟨g, 0, none⟩) l.length c) l) (hi : i < l.length) : RdB (w.setCell ⟨g, i, none⟩ (.int .u8 z)) (.slice (some ⟨g, 0, none⟩) l.length c) (l.set i z) := by
  have hh := fun j hj => rdB_at h j hj
  obtain ⟨a, c', e, hc, hm, _⟩ := h
  injection e with e1 _ e3
  subst e3
  refine ⟨some ⟨g, 0, none⟩, c, by rw [List.length_set], by rw [List.length_set]; exact hc, hm, Or.inr ⟨g, 0, rfl, fun j hj => ?_⟩⟩
  rw [List.length_set] at hj
  obtain ⟨b, o, e4, _, hcell⟩ := hh j hj
  injection e4 with e4
  injection e4 with e5 e6
  subst e5 e6
  rw [Nat.zero_add] at hcell ⊢
  by_cases q : j = i
  · subst q
    rw [World.cell?_setCell_same' _ _ _ (by rw [hcell]; rfl)]
    simp [List.getD, hj]
  · rw [show (w.setCell ⟨g, i, none⟩ (.int .u8 z)).cell? ⟨g, j, none⟩ = w.cell? ⟨g, j, none⟩ from World.cell?_setCell_other _ _ _ _ (by intro e; injection e with _ e _; omega), hcell]
    simp [List.getD, Ne.symm q]

/-- One more byte behind bytes. -/
theorem rdB_more (w : World) (l : List Int) (hl : Bts l) (hz : (strOfNums l).size ≤ 1000000) : RdB (Lib.bytesWorld w 5 (strOfNums l ++ ⟨#[120]⟩)) (.slice (some ⟨w.heap.size, 0, none⟩) ((strOfNums l).size + 1) (grownCap w ((strOfNums l).size + 1) 0 5)) (l ++ [120]) := by
  have hX : (strOfNums l ++ ⟨#[120]⟩).size = (strOfNums l).size + 1 := by rw [ByteArray.size_append]; rfl
  have := rdB_bytes w (strOfNums l ++ ⟨#[120]⟩) (by rw [hX]; unfold maxLen; omega)
  rw [hX, tb_app, tb_of hl] at this
  exact this

set_option maxRecDepth 100000 in
set_option maxHeartbeats 4000000 in
theorem law_any (v : Value) (raw : List Ent) (at_ to_ : Int) (text : ByteArray) (w : World) (h : RdE w v raw) (hw : WfE raw) (hT : Tab w) (ha1 : -9223372036854775808 ≤ at_) (ha2 : at_ < 9223372036854775808) (ht1 : -9223372036854775808 ≤ to_) (ht2 : to_ < 9223372036854775808) (htx : text.size ≤ maxLen) :
    Calls Tryd.prog 3 #[v, .int .i64 at_, .int .i64 to_, .string text] w fun e w' => e = .returned (.bool true) ∧ Below w.heap.size w w' := by
  have C1 := hide (entries_any v raw w h hw)
  have HT := hide hT
  clear h hw hT
  go_enter Tryd.func3, Tryd.ntmps3
  go_wp2_with fail
  refine C1.out.mono ?_
  rintro e w1 ⟨v1, l, rfl, hc1, hS⟩
  have HC1 := hide hc1
  have hsw1 := hc1.1.size
  have HS := hide hS
  have C2 := hide (pack_yes v1 l w1 (rdE_own hc1.2) (HT.out.below hc1.1 (Nat.le_refl _)) hS)
  have hpl := pk_len hS
  have hl1 := hS.1
  have hl64 := hS.2.1
  have HPB := hide (pk_bts l hS.2.1)
  clear hc1 hS C1
  go_wp2_with fail
  refine C2.out.mono ?_
  rintro e w2 ⟨v2, rfl, hc2⟩
  have HC2 := hide hc2
  have HC1' := hide (curE_below HC1.out hc2.1)
  have HB2 := hide (HC1'.out.1)
  have HRB := hide (rdB_own hc2.2)
  have C3 := hide (unpack_any v2 (pk l) w2 HRB.out HPB.out (HT.out.below HC1'.out.1 (Nat.le_refl _)))
  clear hc2 C2 HC1
  go_wp2_with fail
  refine C3.out.mono ?_
  rintro e w3 (⟨hpk, v3, rfl, hc3⟩ | ⟨hpk, rfl, hb3⟩)
  · rw [(pk_is HS.out).1] at hc3
    have HE1 := hide (rdE_own (curE_below HC1'.out hc3.1).2)
    have HE3 := hide (rdE_own hc3.2)
    have HO3 := hide (curB_below HC2.out hc3.1)
    have HB3 := hide (HB2.out.trans (hc3.1.mono HB2.out.size))
    have hsz3 := hide hc3.1.size
    obtain ⟨a1, c1, rfl, hc1a, hc1b⟩ := rdE_len HE1.out
    obtain ⟨a3, c3, rfl, hc3a, hc3b⟩ := rdE_len HE3.out
    obtain ⟨a2, c2, rfl, hc2a, hc2b⟩ := rdB_len HRB.out
    unfold maxLen at hc1b hc2b hc3b
    clear hc3 C3 HC1' hpk
    generalize hn : l.length = n at *
    generalize hL : (pk l).length = L at *
    have HN := hide hn
    have HL := hide hL
    clear hn hL
    go_wp2_with fail
    go_loopw [14] (fun i wr => ∃ k : Nat, k ≤ n ∧ i = .int .i64 k ∧ Below w3.heap.size w3 wr) (fun i _ => n - (intOf i).toNat)
    case atStart => exact ⟨0, Nat.zero_le _, rfl, Below.refl _ _⟩
    case round =>
      obtain ⟨k, hk, rfl, hbr⟩ := hrel
      by_cases hlt : k < n
      · obtain ⟨b1, o1, rfl, hb1, d0, d1, d2⟩ := rdE_at (HE1.out.below hbr) k (by rw [HN.out]; exact hlt)
        obtain ⟨b3, o3, rfl, hb3, g0, g1, g2⟩ := rdE_at (HE3.out.below hbr) k (by rw [HN.out]; exact hlt)
        generalize l.getD k e0 = e at *
        obtain ⟨s, t, x⟩ := e
        simp only at d0 d1 d2 g0 g1 g2
        have HBR := hide hbr
        clear hbr
        go_wp2
        have d0' := cell_regrown d0
        have d1' := cell_regrown d1
        have d2' := cell_regrown d2
        have g0' := cell_regrown g0
        have g1' := cell_regrown g1
        have g2' := cell_regrown g2
        clear d0 d1 d2 g0 g1 g2
        refine wp_region_quiet_below (by kernel_rfl) (by kernel_rfl) ?_
        repeat (go_big_quiet_step (fail))
        refine wpQuiet_nil ?_
        intro _ hw'
        obtain ⟨⟨dq, osq⟩, hw''⟩ := hw'
        subst hw''
        have HBQ := hide (below_regrown wr dq osq)
        clear d0' d1' d2' g0' g1' g2'
        generalize Sort.grow (redrawn wr dq) osq = wq at *
        go_wp2
        go_roundw
        case rel => exact ⟨k + 1, by omega, by go_num, HBR.out.trans (HBQ.out.mono HBR.out.size)⟩
        case measure => simp [intOf]; omega
      · have hke : k = n := by omega
        subst hke
        have HO := hide (curB_below HO3.out hbr)
        have HB := hide (HB3.out.trans (hbr.mono HB3.out.size))
        have HSZ : Hid (w.heap.size ≤ wr.heap.size) := HB.out.size
        clear hbr HE1 HE3 HRB HO3 HB3 HB2 hsz3
        have hT4 := HT.out.below HB.out (Nat.le_refl _)
        have C4 := hide (unpack_any (.slice a2 (L - 1) c2) ((pk l).take (L - 1)) wr (by have := rdB_take (a := a2) (c := c2) (l := pk l) (by have := rdB_own HO.out.2; rw [HL.out]; exact this) (L - 1) (by rw [HL.out]; omega); exact this) (bts_take HPB.out _) hT4)
        have hless := pk_less HS.out
        rw [HL.out] at hless
        have HLESS := hide hless
        clear hless hT4
        go_wp2_with fail
        refine C4.out.mono ?_
        rintro e w4 (⟨hq, _⟩ | ⟨_, rfl, hb4⟩)
        · exact absurd hq HLESS.out
        have HO4 := hide (curB_below HO.out hb4)
        have HB4 := hide (HB.out.trans (hb4.mono HB.out.size))
        have hcv := conv_any (rdB_own HO4.out.2)
        have hpz : (strOfNums (pk l)).size = L := by rw [← HL.out, ← tb_len, tb_of HPB.out]
        have HPZ := hide hpz
        have hadd := run_string_add_sum (P := Tryd.prog) w4 (strOfNums (pk l)) ⟨#[120]⟩ (by rw [hpz]; simp [ByteArray.size]; omega)
        clear hb4 C4 hpz HO HB HSZ
        have hcv2 := Lib.run_convert_string_bytes (P := Tryd.prog) w4 9 24 5 (strOfNums (pk l) ++ ⟨#[120]⟩) (u := .string) Tryd.underlying9 Tryd.underlying24 Tryd.underlying5
        go_wp2_with fail
        have hB5 := bytesWorld_below w4 (strOfNums (pk l) ++ ⟨#[120]⟩)
        have HB5 := hide (HB4.out.trans (hB5.mono HB4.out.size))
        have HO5 := hide (curB_below HO4.out hB5)
        have C5 := hide (unpack_any _ (pk l ++ [120]) _ (rdB_more w4 (pk l) HPB.out (by rw [HPZ.out]; omega)) (bts_append HPB.out (bts_one (by omega) (by omega))) (HT.out.below HB5.out (Nat.le_refl _)))
        generalize Lib.bytesWorld w4 5 (strOfNums (pk l) ++ ⟨#[120]⟩) = W5 at *
        generalize grownCap w4 ((strOfNums (pk l)).size + 1) 0 5 = G5 at *
        refine C5.out.mono ?_
        rintro e w5 (⟨hq, _⟩ | ⟨_, rfl, hb5⟩)
        · exact absurd hq (pk_more HS.out 120)
        have HO6 := hide (curB_below HO5.out hb5)
        have HB6 := hide (HB5.out.trans (hb5.mono HB5.out.size))
        clear hb5 C5 hB5 HB5 HO5 HO4 HB4 hcv hcv2 hadd
        have P1 := hide (pick_any at_ L w5 ha1 ha2 (by omega) (by omega))
        go_wp2_with fail
        refine P1.out.mono ?_
        rintro e w' ⟨⟨r, hr0, hr1, rfl⟩, hw'⟩
        rw [hw']
        clear hw' w' P1
        obtain ⟨i, rfl⟩ := Int.eq_ofNat_of_zero_le hr0
        have hi : i < L := by omega
        have P2 := hide (pick_any to_ 256 w5 ht1 ht2 (by omega) (by omega))
        go_wp2_with fail
        refine P2.out.mono ?_
        rintro e w' ⟨⟨q, hq0, hq1, rfl⟩, hw'⟩
        rw [hw']
        clear hw' w' P2
        have hown := HO6.out.2
        rw [HL.out] at hown
        rcases hown.2 with ⟨hnil, hz⟩ | ⟨g, cap, cur, hv, hgb, hg, hcap, hcm, hcs, htk⟩
        · omega
        injection hv with hv1 hv2 hv3
        subst hv1 hv3
        have hcell : w5.cell? ⟨g, i, none⟩ = some (.int .u8 ((pk l).getD i 0)) := by
          have := hown.cells (g := g) rfl i (.int .u8 ((pk l).getD i 0)) (by simp [List.getD, show i < (pk l).length by rw [HL.out]; exact hi])
          rwa [show (⟨g, 0, none⟩ : Addr).add i = ⟨g, i, none⟩ from by unfold Addr.add; split <;> simp_all] at this
        have hfz : w5.frozen? ⟨g, i, none⟩ = false := by simp [World.frozen?, hg]
        have HG := hide hg
        have HOWN := hide hown
        have hy := bts_get HPB.out i
        generalize hyy : (pk l).getD i 0 = y at *
        have HYY := hide hyy
        obtain ⟨hy0, hy1⟩ := hy
        clear hown hg hyy htk
        by_cases hqy : q = y
        · subst hqy
          go_wp2_with fail
          have C6 := hide (unpack_any _ ((pk l).set i ((q + 1) % 256)) _ (by have := rdB_put (z := ((q + 1) % 256)) (i := i) (by have := rdB_own HO6.out.2; rw [HL.out]; exact this) (by rw [HL.out]; exact hi); rw [HL.out] at this; exact this) (bts_set HPB.out i (by omega) (by omega)) (HT.out.below (below_set (i := i) HB6.out (show w.heap.size ≤ g by omega) (.int .u8 ((q + 1) % 256))) (Nat.le_refl _)))
          have HB7 := hide (below_set (i := i) HB6.out (show w.heap.size ≤ g by omega) (.int .u8 ((q + 1) % 256)))
          have HNO := hide (pk_other HS.out i ((q + 1) % 256) (by omega) (by omega) (by rw [HL.out]; exact hi) (by rw [HYY.out]; exact (by omega)))
          generalize w5.setCell ⟨g, i, none⟩ (.int .u8 ((q + 1) % 256)) = W7 at *
          refine C6.out.mono ?_
          rintro e w6 (⟨hq, _⟩ | ⟨_, rfl, hb6⟩)
          · exact absurd hq HNO.out
          have HB8 := hide (HB7.out.trans (hb6.mono HB7.out.size))
          clear hb6 C6 HB7 HNO hcell hfz HG HOWN HO6 HB6
          have hcv3 := Lib.run_convert_string_bytes (P := Tryd.prog) w6 9 24 5 text (u := .string) Tryd.underlying9 Tryd.underlying24 Tryd.underlying5
          have hB9 := bytesWorld_below w6 text
          have HB9 := hide (HB8.out.trans (hB9.mono HB8.out.size))
          have C7 := hide (unpack_any _ (tb text) _ (rdB_bytes w6 text htx) (tb_bts text) (HT.out.below HB9.out (Nat.le_refl _)))
          generalize Lib.bytesWorld w6 5 text = W9 at *
          generalize grownCap w6 text.size 0 5 = G9 at *
          go_wp2_with fail
          refine C7.out.mono ?_
          rintro e w7 (⟨hq, v7, rfl, hc7⟩ | ⟨_, rfl, hb7⟩)
          · have HB10 := hide (HB9.out.trans (hc7.1.mono HB9.out.size))
            have C8 := hide (pack_yes v7 (rdAll (tb text)) w7 (rdE_own hc7.2) (HT.out.below HB10.out (Nat.le_refl _)) hq.1)
            rw [hq.2] at C8
            clear hq hc7 C7 hcv3 hB9 HB9 HB8
            go_wp2_with fail
            refine C8.out.mono ?_
            rintro e w8 ⟨v8, rfl, hc8⟩
            have hcv4 := conv_any (rdB_own hc8.2)
            rw [of_tb] at hcv4
            have HB11 := hide (HB10.out.trans (hc8.1.mono HB10.out.size))
            clear hc8 C8
            go_wp2
            go_ret
            exact ⟨by simp, HB11.out⟩
          · have HB10 := hide (HB9.out.trans (hb7.mono HB9.out.size))
            clear hb7 C7 hcv3 hB9 HB9 HB8
            go_wp2
            go_ret
            exact ⟨rfl, HB10.out⟩
        · have hqb : (q == y) = false := by simpa using hqy
          go_wp2_with fail
          have C6 := hide (unpack_any _ ((pk l).set i q) _ (by have := rdB_put (z := q) (i := i) (by have := rdB_own HO6.out.2; rw [HL.out]; exact this) (by rw [HL.out]; exact hi); rw [HL.out] at this; exact this) (bts_set HPB.out i hq0 hq1) (HT.out.below (below_set (i := i) HB6.out (show w.heap.size ≤ g by omega) (.int .u8 q)) (Nat.le_refl _)))
          have HB7 := hide (below_set (i := i) HB6.out (show w.heap.size ≤ g by omega) (.int .u8 q))
          have HNO := hide (pk_other HS.out i q hq0 hq1 (by rw [HL.out]; exact hi) (by rw [HYY.out]; exact hqy))
          generalize w5.setCell ⟨g, i, none⟩ (.int .u8 q) = W7 at *
          refine C6.out.mono ?_
          rintro e w6 (⟨hq, _⟩ | ⟨_, rfl, hb6⟩)
          · exact absurd hq HNO.out
          have HB8 := hide (HB7.out.trans (hb6.mono HB7.out.size))
          clear hb6 C6 HB7 HNO hcell hfz HG HOWN HO6 HB6
          have hcv3 := Lib.run_convert_string_bytes (P := Tryd.prog) w6 9 24 5 text (u := .string) Tryd.underlying9 Tryd.underlying24 Tryd.underlying5
          have hB9 := bytesWorld_below w6 text
          have HB9 := hide (HB8.out.trans (hB9.mono HB8.out.size))
          have C7 := hide (unpack_any _ (tb text) _ (rdB_bytes w6 text htx) (tb_bts text) (HT.out.below HB9.out (Nat.le_refl _)))
          generalize Lib.bytesWorld w6 5 text = W9 at *
          generalize grownCap w6 text.size 0 5 = G9 at *
          go_wp2_with fail
          refine C7.out.mono ?_
          rintro e w7 (⟨hq, v7, rfl, hc7⟩ | ⟨_, rfl, hb7⟩)
          · have HB10 := hide (HB9.out.trans (hc7.1.mono HB9.out.size))
            have C8 := hide (pack_yes v7 (rdAll (tb text)) w7 (rdE_own hc7.2) (HT.out.below HB10.out (Nat.le_refl _)) hq.1)
            rw [hq.2] at C8
            clear hq hc7 C7 hcv3 hB9 HB9 HB8
            go_wp2_with fail
            refine C8.out.mono ?_
            rintro e w8 ⟨v8, rfl, hc8⟩
            have hcv4 := conv_any (rdB_own hc8.2)
            rw [of_tb] at hcv4
            have HB11 := hide (HB10.out.trans (hc8.1.mono HB10.out.size))
            clear hc8 C8
            go_wp2
            go_ret
            exact ⟨by simp, HB11.out⟩
          · have HB10 := hide (HB9.out.trans (hb7.mono HB9.out.size))
            clear hb7 C7 hcv3 hB9 HB9 HB8
            go_wp2
            go_ret
            exact ⟨rfl, HB10.out⟩
  · exact absurd (pk_is HS.out).2 hpk
end Go.Proofs.YtkncboinfcnklaaDoor
