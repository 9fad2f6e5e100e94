import Derived.Test.YtkncboinfcnklaaGreatDoorL17
namespace Go.Proofs.YtkncboinfcnklaaGreatDoor
open Go.RowKit Go.Deep Go.Proofs.YtkncboinfcnklaaGreatDoor.Mth

theorem RdEE.below {w w' : World} {v : Value} {Es : List (List Ent)} (h : RdEE w v Es) (hb : Below w.heap.size w w') : RdEE w' v Es := by
  obtain ⟨a, c, rfl, hc, hm, h⟩ := h
  refine ⟨a, c, rfl, hc, hm, ?_⟩
  rcases h with h | ⟨b, o, rfl, h⟩
  · exact Or.inl h
  · refine Or.inr ⟨b, o, rfl, fun i hi => ?_⟩
    obtain ⟨vi, h1, h2⟩ := h i hi
    exact ⟨vi, (hb.cell (p := ⟨b, o + i, none⟩) (World.block_lt_of_cell? _ _ h1)).trans h1, h2.below hb⟩

theorem getD_mem {α : Type} {l : List α} {j : Nat} (h : j < l.length) (z : α) : l.getD j z ∈ l := by
  rw [List.getD, List.getElem?_eq_getElem h]
  exact List.getElem_mem _

theorem Blk.keepO {w w' : World} {g : Nat} {cs : List Value} (h : Blk w g 94 cs) (hk : KeepO w w') : Blk w' g 94 cs := (hk g _ h).trans h

set_option maxRecDepth 100000 in
set_option maxHeartbeats 4000000 in
theorem plays_any (W0 : World) (g0 g1 g2 g3 sv : Value) (Es : List (List Ent)) (ops : List Opr) (hs0 : ∃ a n c, g0 = .slice a n c) (hs1 : ∃ a n c, g1 = .slice a n c) (hs3 : ∃ a n c, g3 = .slice a n c) (hG : RdEE W0 g2 Es) (hEl : ∀ E ∈ Es, E.length ≤ 1048576) (hEs : Es.length ≤ 1048576) (hO : RdO W0 sv ops) (hOk : ∀ o ∈ ops, OkO o) (hn : ops.length ≤ 1048576) (hT : Tab W0) :
    Calls Tryz.prog 12 #[.agg #[g0, g1, g2, g3], sv, .int .i64 7, .int .i64 9] W0 fun e w' => e = .returned (.bool true) ∧ Below W0.heap.size W0 w' := by
  have HG := hide hG
  have HEL := hide hEl
  have HO := hide hO
  have HOK := hide hOk
  have HT := hide hT
  obtain ⟨sa, sc, rfl, hsc, hsm⟩ := rdO_len hO
  unfold maxLen at hsm
  obtain ⟨ga, gc, rfl, _, _, _⟩ := hG
  obtain ⟨a0, n0, c0, rfl⟩ := hs0
  obtain ⟨a1, n1, c1, rfl⟩ := hs1
  obtain ⟨a3, n3, c3, rfl⟩ := hs3
  have HB1 := hide (below_alloc W0 (Obj.cells #[.slice a0 n0 c0, .slice a1 n1 c1, .slice ga Es.length gc, .slice a3 n3 c3] 27))
  have HGB := hide (alloc_new W0 (Obj.cells #[.slice a0 n0 c0, .slice a1 n1 c1, .slice ga Es.length gc, .slice a3 n3 c3] 27) W0.heap.size rfl)
  have hlt1 : W0.heap.size < (W0.alloc (Obj.cells #[.slice a0 n0 c0, .slice a1 n1 c1, .slice ga Es.length gc, .slice a3 n3 c3] 27)).heap.size := by simp
  clear hEl hO hOk hT
  generalize hon : ops.length = on at *
  have HON := hide hon
  clear hon
  go_enter Tryz.func12, Tryz.ntmps12
  go_wp2_with fail
  generalize W0.alloc (Obj.cells #[.slice a0 n0 c0, .slice a1 n1 c1, .slice ga Es.length gc, .slice a3 n3 c3] 27) = w1 at *
  refine (known_any w1).mono ?_
  rintro e w2 ⟨k0, k1, k2, k3, ⟨p0, q0, r0, rfl⟩, ⟨p1, q1, r1, rfl⟩, ⟨p3, q3, r3, rfl⟩, rfl, hb2, hk2⟩
  have HB2 := hide hb2
  have HK2 := hide hk2
  have hs2 := hb2.size
  obtain ⟨p2, r2, rfl, _, _, _⟩ := hk2
  clear hb2
  have HS3 := hide (SI.new w2 (.slice p0 q0 r0) (.slice p1 q1 r1) (.slice p2 1 r2) (.slice p3 q3 r3))
  have HB3 := hide (below_alloc w2 (Obj.cells #[.slice p0 q0 r0, .slice p1 q1 r1, .slice p2 1 r2, .slice p3 q3 r3, .slice none 0 0, .slice none 0 0, .slice none 0 0, .slice none 0 0, .slice none 0 0, .slice none 0 0, .slice none 0 0, .slice none 0 0, .slice none 0 0, .slice none 0 0, .slice none 0 0] 91))
  go_wp2_with fail
  generalize w2.alloc (Obj.cells #[.slice p0 q0 r0, .slice p1 q1 r1, .slice p2 1 r2, .slice p3 q3 r3, .slice none 0 0, .slice none 0 0, .slice none 0 0, .slice none 0 0, .slice none 0 0, .slice none 0 0, .slice none 0 0, .slice none 0 0, .slice none 0 0, .slice none 0 0, .slice none 0 0] 91) = w3 at *
  refine (opening_any w3).mono ?_
  rintro e w4 ⟨og, rfl, hb4, hbl4⟩
  have HS4 := hide (HS3.out.below hb4)
  have HB4 := hide (HB3.out.trans (hb4.mono HB3.out.size))
  have HBL4 := hide hbl4
  have HB02 : Hid (Below W0.heap.size W0 w2) := HB1.out.trans (HB2.out.mono HB1.out.size)
  have HT2 := hide (HT.out.below HB02.out (Nat.le_refl _))
  have hso := opn_ok pkS pkS_size
  have HSO := hide hso
  clear hb4 hbl4 hso HS3 HB3
  generalize hOP : opn pkS = OP at *
  have hol : Hid (OP.length = 27) := by show _ = _; rw [← hOP]; rfl
  clear hOP
  go_wp2_with fail
  go_loopw [11] (fun i wr => ∃ k : Nat, k ≤ 27 ∧ i = .int .i64 k ∧ Below w2.heap.size w2 wr ∧ SI wr w2.heap.size w2.heap.size (.slice p0 q0 r0) (.slice p1 q1 r1) (.slice p2 1 r2) (.slice p3 q3 r3) k ∧ Blk wr og 94 (OP.flatMap oC)) (fun i _ => 27 - (intOf i).toNat)
  case atStart => exact ⟨0, by omega, rfl, HB4.out, HS4.out, HBL4.out⟩
  case round =>
    obtain ⟨k, hk, rfl, hb, hsi, hbl⟩ := hrel
    have HB := hide hb
    have HSI := hide hsi
    have HBL := hide hbl
    clear hb hsi hbl
    by_cases hlt : k < 27
    · have hrd := rdO_blk HBL.out (by rw [hol.out]; omega)
      rw [hol.out] at hrd
      obtain ⟨b, o, e, _, c0', c1', c2', c3', c4', c5'⟩ := rdO_at hrd k (by rw [hol.out]; exact hlt)
      injection e with e
      injection e with e1 e2
      subst e1 e2
      have hok := HSO.out _ (getD_mem (l := OP) (j := k) (by rw [hol.out]; exact hlt) o0)
      generalize OP.getD k o0 = op at *
      by_cases h7 : 7 ≤ op.k
      · by_cases h9 : op.k ≤ 9
        · have CS := hide (step_any w2 wr w2.heap.size _ _ _ _ [[eOne]] k op HB.out HSI.out HT2.out HK2.out (by intro E hE; simp at hE; subst hE; simp) (by simp) hok ⟨h7, h9⟩ (by omega))
          obtain ⟨ok, oA, oB, oC', oS, oT⟩ := op
          simp only [oV] at CS c0' c1' c2' c3' c4' c5' h7 h9
          simp only [Nat.zero_add] at c0' c1' c2' c3' c4' c5'
          clear hok hrd
          go_wp2_with fail
          refine CS.out.mono ?_
          rintro e w5 ⟨rfl, h1, h2, h3⟩
          have H1 := hide h1
          have H2 := hide h2
          have H3 := hide (HBL.out.keepO h3)
          clear h1 h2 h3 CS c0' c1' c2' c3' c4' c5'
          go_wp2
          go_roundw
          case rel => exact ⟨k + 1, by omega, by go_num, H1.out, H2.out, H3.out⟩
          case measure => simp [intOf]; omega
        · obtain ⟨ok, oA, oB, oC', oS, oT⟩ := op
          simp only at c0' h7 h9
          simp only [Nat.zero_add] at c0'
          clear hok hrd c1' c2' c3' c4' c5'
          go_wp2
          go_roundw
          case rel => exact ⟨k + 1, by omega, by go_num, HB.out, HSI.out.more, HBL.out⟩
          case measure => simp [intOf]; omega
      · obtain ⟨ok, oA, oB, oC', oS, oT⟩ := op
        simp only at c0' h7
        simp only [Nat.zero_add] at c0'
        clear hok hrd c1' c2' c3' c4' c5'
        go_wp2
        go_roundw
        case rel => exact ⟨k + 1, by omega, by go_num, HB.out, HSI.out.more, HBL.out⟩
        case measure => simp [intOf]; omega
    · have HGW := hide ((HB.out.block W0.heap.size (by omega)).trans ((HB2.out.block W0.heap.size hlt1).trans HGB.out))
      obtain ⟨x0, _⟩ := cell_of (j := 0) (u := .slice a0 n0 c0) HGW.out rfl
      obtain ⟨x1, _⟩ := cell_of (j := 1) (u := .slice a1 n1 c1) HGW.out rfl
      obtain ⟨x2, _⟩ := cell_of (j := 2) (u := .slice ga Es.length gc) HGW.out rfl
      obtain ⟨x3, _⟩ := cell_of (j := 3) (u := .slice a3 n3 c3) HGW.out rfl
      have HB0 : Hid (Below W0.heap.size W0 wr) := HB02.out.trans (HB.out.mono HB02.out.size)
      have HT5 := hide (HT.out.below HB0.out (Nat.le_refl _))
      have HG5 := hide (HG.out.below HB0.out)
      have HS6 := hide (SI.new wr (.slice a0 n0 c0) (.slice a1 n1 c1) (.slice ga Es.length gc) (.slice a3 n3 c3))
      have HB6 := hide (below_alloc wr (Obj.cells #[.slice a0 n0 c0, .slice a1 n1 c1, .slice ga Es.length gc, .slice a3 n3 c3, .slice none 0 0, .slice none 0 0, .slice none 0 0, .slice none 0 0, .slice none 0 0, .slice none 0 0, .slice none 0 0, .slice none 0 0, .slice none 0 0, .slice none 0 0, .slice none 0 0] 91))
      clear HSI HBL HGW HSO
      go_wp2_with fail
      generalize wr.alloc (Obj.cells #[.slice a0 n0 c0, .slice a1 n1 c1, .slice ga Es.length gc, .slice a3 n3 c3, .slice none 0 0, .slice none 0 0, .slice none 0 0, .slice none 0 0, .slice none 0 0, .slice none 0 0, .slice none 0 0, .slice none 0 0, .slice none 0 0, .slice none 0 0, .slice none 0 0] 91) = w6 at *
      clear x0 x1 x2 x3
      generalize wr = Win at *
      go_loopw [14] (fun i wr => ∃ k : Nat, k ≤ on ∧ i = .int .i64 k ∧ Below Win.heap.size Win wr ∧ SI wr Win.heap.size Win.heap.size (.slice a0 n0 c0) (.slice a1 n1 c1) (.slice ga Es.length gc) (.slice a3 n3 c3) k) (fun i _ => on - (intOf i).toNat)
      case atStart => exact ⟨0, by omega, rfl, HB6.out, HS6.out⟩
      case round =>
        obtain ⟨k, hk, rfl, hb, hsi⟩ := hrel
        have HBB := hide hb
        have HSI := hide hsi
        have HB0w : Hid (Below W0.heap.size W0 wr) := HB0.out.trans (hb.mono HB0.out.size)
        clear hb hsi
        by_cases hlt2 : k < on
        · obtain ⟨b, o, rfl, _, c0', c1', c2', c3', c4', c5'⟩ := rdO_at (HO.out.below HB0w.out) k (by rw [HON.out]; exact hlt2)
          have hok := HOK.out _ (getD_mem (l := ops) (j := k) (by rw [HON.out]; exact hlt2) o0)
          generalize ops.getD k o0 = op at *
          by_cases h7 : 7 ≤ op.k
          · by_cases h9 : op.k ≤ 9
            · have CS := hide (step_any Win wr Win.heap.size _ _ _ _ Es k op HBB.out HSI.out HT5.out HG5.out HEL.out hEs hok ⟨h7, h9⟩ (by omega))
              obtain ⟨ok, oA, oB, oC', oS, oT⟩ := op
              simp only [oV] at CS c0' c1' c2' c3' c4' c5' h7 h9
              clear hok
              go_wp2_with fail
              refine CS.out.mono ?_
              rintro e w7 ⟨rfl, h1, h2, _⟩
              have H1 := hide h1
              have H2 := hide h2
              obtain ⟨kb, kt, ke, C, Nb, Nt, Ne, hI, hN1, hN2, hN3⟩ := h2
              have CW := hide (whole_any w7 _ _ _ _ _ _ kb kt ke C Nb Nt Ne hI (by omega) (by omega) (by omega))
              clear h1 CS c0' c1' c2' c3' c4' c5' hI
              go_wp2_with fail
              refine CW.out.mono ?_
              rintro e w8 ⟨rfl, hb8⟩
              have H8 := hide (H1.out.trans (hb8.mono H1.out.size))
              have S8 := hide (H2.out.below hb8)
              clear hb8 CW
              go_wp2
              go_roundw
              case rel => exact ⟨k + 1, by omega, by go_num, H8.out, S8.out⟩
              case measure => simp [intOf]; omega
            · obtain ⟨ok, oA, oB, oC', oS, oT⟩ := op
              simp only at c0' h7 h9
              clear hok c1' c2' c3' c4' c5'
              go_wp2
              go_roundw
              case rel => exact ⟨k + 1, by omega, by go_num, HBB.out, HSI.out.more⟩
              case measure => simp [intOf]; omega
          · obtain ⟨ok, oA, oB, oC', oS, oT⟩ := op
            simp only at c0' h7
            clear hok c1' c2' c3' c4' c5'
            go_wp2
            go_roundw
            case rel => exact ⟨k + 1, by omega, by go_num, HBB.out, HSI.out.more⟩
            case measure => simp [intOf]; omega
        · go_wp2
          go_ret
          exact ⟨rfl, HB0w.out⟩

set_option maxRecDepth 100000 in
set_option maxHeartbeats 1000000 in
theorem law_any (W0 : World) (g0 g1 g2 g3 sv : Value) (Es : List (List Ent)) (ops : List Opr) (hs0 : ∃ a n c, g0 = .slice a n c) (hs1 : ∃ a n c, g1 = .slice a n c) (hs3 : ∃ a n c, g3 = .slice a n c) (hG : RdEE W0 g2 Es) (hEl : ∀ E ∈ Es, E.length ≤ 1048576) (hEs : Es.length ≤ 1048576) (hO : RdO W0 sv ops) (hOk : ∀ o ∈ ops, OkO o) (hn : ops.length ≤ 1048576) (hT : Tab W0) :
    Calls Tryz.prog 4 #[.agg #[g0, g1, g2, g3], sv] W0 fun e w' => e = .returned (.bool true) ∧ Below W0.heap.size W0 w' := by
  have HB1 := hide (below_alloc W0 (Obj.cells #[g0, g1, g2, g3] 27))
  have CP := hide (plays_any _ g0 g1 g2 g3 sv Es ops hs0 hs1 hs3 (hG.below HB1.out) hEl hEs (hO.below HB1.out) hOk hn (hT.below HB1.out (Nat.le_refl _)))
  obtain ⟨ga, gc, rfl, _, _, _⟩ := hG
  obtain ⟨sa, sc, rfl, _, _⟩ := rdO_len hO
  obtain ⟨a0, n0, c0, rfl⟩ := hs0
  obtain ⟨a1, n1, c1, rfl⟩ := hs1
  obtain ⟨a3, n3, c3, rfl⟩ := hs3
  clear hEl hO hOk hT
  go_enter Tryz.func4, Tryz.ntmps4
  go_wp2_with fail
  refine CP.out.mono ?_
  rintro e w' ⟨rfl, hb⟩
  have HB := hide (HB1.out.trans (hb.mono HB1.out.size))
  clear hb CP
  go_wp2
  go_ret
  exact ⟨rfl, HB.out⟩
end Go.Proofs.YtkncboinfcnklaaGreatDoor
