import Derived.Test.YtkncboinfcnklaaGreatDoorJf
import Derived.Test.YtkncboinfcnklaaGreatDoorL17
import Derived.Test.YtkncboinfcnklaaGreatDoorL18
namespace Go.Proofs.YtkncboinfcnklaaGreatDoor
open Go.RowKit Go.Deep Go.Proofs.YtkncboinfcnklaaGreatDoor.Mth

set_option maxRecDepth 100000 in
set_option maxHeartbeats 1000000 in
theorem knownL_any (w : World) :
    Calls Tryz.prog 27 #[] w fun e w' => ∃ s0 s1 s2 s3 : Value, (∃ a n c, s0 = .slice a n c) ∧ (∃ a n c, s2 = .slice a n c) ∧ (∃ a n c, s3 = .slice a n c) ∧ e = .returned (.agg #[s0, s1, s2, s3]) ∧ Below w.heap.size w w' ∧ WI.RdL w' s0 [[3, 1, 3], [2, 3]] ∧ Str.RdL w' s1 [[⟨#[98]⟩, ⟨#[97]⟩], [⟨#[98]⟩]] := by
  go_enter Tryz.func27, Tryz.ntmps27
  go_wp2
  refine bodyPost_ret (v := .agg #[.slice (some ⟨w.heap.size + 1 + 1 + 1, 0, none⟩) 2 2, .slice (some ⟨w.heap.size + 1 + 1 + 1 + 1 + 1 + 1, 0, none⟩) 2 2, .slice (some ⟨w.heap.size + 1 + 1 + 1 + 1 + 1 + 1 + 1 + 1, 0, none⟩) 1 1, .slice (some ⟨w.heap.size + 1 + 1 + 1 + 1 + 1 + 1 + 1 + 1 + 1, 0, none⟩) 2 2]) (by simp [results, Tryz.results27, go_sem]) rfl ⟨_, _, _, _, ⟨_, _, _, rfl⟩, ⟨_, _, _, rfl⟩, ⟨_, _, _, rfl⟩, rfl, ?_, ?_, ?_⟩
  · repeat (first | exact below_alloc w _ | refine Below.alloc ?_ (by simp; try omega) _)
  · refine ⟨_, 2, rfl, by simp, by unfold maxLen; simp, Or.inr ⟨_, 0, rfl, fun i hi => ?_⟩⟩
    have hi2 : i < 2 := by simpa using hi
    match i, hi2 with
    | 0, _ =>
      refine ⟨.slice (some ⟨w.heap.size + 1, 0, none⟩) 3 3, (cell_of (j := 0) (alloc_old (alloc_old (alloc_old (alloc_old (alloc_old (alloc_old (alloc_new _ _ _ (by simp)))))))) rfl).1, ⟨_, 3, rfl, by simp, by unfold maxLen; simp, (fun q => by cases q), Or.inr ⟨_, 0, rfl, fun j hj => ?_⟩⟩⟩
      have hj2 : j < 3 := by simpa using hj
      match j, hj2 with
      | 0, _ => exact (cell_of (j := 0) (alloc_old (alloc_old (alloc_old (alloc_old (alloc_old (alloc_old (alloc_old (alloc_old (alloc_new _ _ _ (by simp)))))))))) rfl).1
      | 1, _ => exact (cell_of (j := 1) (alloc_old (alloc_old (alloc_old (alloc_old (alloc_old (alloc_old (alloc_old (alloc_old (alloc_new _ _ _ (by simp)))))))))) rfl).1
      | 2, _ => exact (cell_of (j := 2) (alloc_old (alloc_old (alloc_old (alloc_old (alloc_old (alloc_old (alloc_old (alloc_old (alloc_new _ _ _ (by simp)))))))))) rfl).1
    | 1, _ =>
      refine ⟨.slice (some ⟨w.heap.size + 1 + 1, 0, none⟩) 2 2, (cell_of (j := 1) (alloc_old (alloc_old (alloc_old (alloc_old (alloc_old (alloc_old (alloc_new _ _ _ (by simp)))))))) rfl).1, ⟨_, 2, rfl, by simp, by unfold maxLen; simp, (fun q => by cases q), Or.inr ⟨_, 0, rfl, fun j hj => ?_⟩⟩⟩
      have hj2 : j < 2 := by simpa using hj
      match j, hj2 with
      | 0, _ => exact (cell_of (j := 0) (alloc_old (alloc_old (alloc_old (alloc_old (alloc_old (alloc_old (alloc_old (alloc_new _ _ _ (by simp))))))))) rfl).1
      | 1, _ => exact (cell_of (j := 1) (alloc_old (alloc_old (alloc_old (alloc_old (alloc_old (alloc_old (alloc_old (alloc_new _ _ _ (by simp))))))))) rfl).1
  · refine ⟨_, 2, rfl, by simp, by unfold maxLen; simp, Or.inr ⟨_, 0, rfl, fun i hi => ?_⟩⟩
    have hi2 : i < 2 := by simpa using hi
    match i, hi2 with
    | 0, _ =>
      refine ⟨.slice (some ⟨w.heap.size + 1 + 1 + 1 + 1, 0, none⟩) 2 2, (cell_of (j := 0) (alloc_old (alloc_old (alloc_old (alloc_new _ _ _ (by simp))))) rfl).1, ⟨_, 2, rfl, by simp, by unfold maxLen; simp, (fun q => by cases q), Or.inr ⟨_, 0, rfl, fun j hj => ?_⟩⟩⟩
      have hj2 : j < 2 := by simpa using hj
      match j, hj2 with
      | 0, _ => exact (cell_of (j := 0) (alloc_old (alloc_old (alloc_old (alloc_old (alloc_old (alloc_new _ _ _ (by simp))))))) rfl).1
      | 1, _ => exact (cell_of (j := 1) (alloc_old (alloc_old (alloc_old (alloc_old (alloc_old (alloc_new _ _ _ (by simp))))))) rfl).1
    | 1, _ =>
      refine ⟨.slice (some ⟨w.heap.size + 1 + 1 + 1 + 1 + 1, 0, none⟩) 1 1, (cell_of (j := 1) (alloc_old (alloc_old (alloc_old (alloc_new _ _ _ (by simp))))) rfl).1, ⟨_, 1, rfl, by simp, by unfold maxLen; simp, (fun q => by cases q), Or.inr ⟨_, 0, rfl, fun j hj => ?_⟩⟩⟩
      have hj2 : j < 1 := by simpa using hj
      match j, hj2 with
      | 0, _ => exact (cell_of (j := 0) (alloc_old (alloc_old (alloc_old (alloc_old (alloc_new _ _ _ (by simp)))))) rfl).1
end Go.Proofs.YtkncboinfcnklaaGreatDoor

namespace Go.Proofs.YtkncboinfcnklaaGreatDoor
open Go.RowKit Go.Deep Go.Proofs.YtkncboinfcnklaaGreatDoor.Mth

theorem opn_okL (P : ByteArray) : ∀ o ∈ opn P, OkL o := by
  intro o ho
  unfold opn at ho
  simp only [List.mem_cons, List.not_mem_nil, or_false] at ho
  rcases ho with rfl | rfl | rfl | rfl | rfl | rfl | rfl | rfl | rfl | rfl | rfl | rfl | rfl | rfl | rfl | rfl | rfl | rfl | rfl | rfl | rfl | rfl | rfl | rfl | rfl | rfl | rfl
  all_goals exact ⟨by simp, by simp, by simp, by simp, by simp, by simp⟩
theorem WI.RdL.below {w w' : World} {v : Value} {Ls : List (List Int)} (h : WI.RdL w v Ls) (hb : Below w.heap.size w w') : WI.RdL w' v Ls := by
  obtain ⟨a, c, rfl, hc, hm, h⟩ := h
  refine ⟨a, c, rfl, hc, hm, ?_⟩
  rcases h with h | ⟨b, o, rfl, h⟩
  · exact Or.inl h
  · refine Or.inr ⟨b, o, rfl, fun i hi => ?_⟩
    obtain ⟨vi, h1, h2⟩ := h i hi
    exact ⟨vi, (hb.cell (p := ⟨b, o + i, none⟩) (World.block_lt_of_cell? _ _ h1)).trans h1, h2.below hb⟩
theorem Str.RdL.below {w w' : World} {v : Value} {Ls : List (List ByteArray)} (h : Str.RdL w v Ls) (hb : Below w.heap.size w w') : Str.RdL w' v Ls := by
  obtain ⟨a, c, rfl, hc, hm, h⟩ := h
  refine ⟨a, c, rfl, hc, hm, ?_⟩
  rcases h with h | ⟨b, o, rfl, h⟩
  · exact Or.inl h
  · refine Or.inr ⟨b, o, rfl, fun i hi => ?_⟩
    obtain ⟨vi, h1, h2⟩ := h i hi
    exact ⟨vi, (hb.cell (p := ⟨b, o + i, none⟩) (World.block_lt_of_cell? _ _ h1)).trans h1, h2.below hb⟩

set_option maxRecDepth 100000 in
set_option maxHeartbeats 4000000 in
theorem playsL_any (W0 : World) (g0 g1 g2 g3 sv : Value) (Ls : List (List Int)) (Ts : List (List ByteArray)) (ops : List Opr) (hs2 : ∃ a n c, g2 = .slice a n c) (hs3 : ∃ a n c, g3 = .slice a n c) (hG : WI.RdL W0 g0 Ls) (hLe : ∀ L ∈ Ls, L.length ≤ 1048576) (hLs : Ls.length ≤ 1048576) (hT : Str.RdL W0 g1 Ts) (hTe : ∀ L ∈ Ts, L.length ≤ 1048576) (hTs : Ts.length ≤ 1048576) (hO : RdO W0 sv ops) (hOk : ∀ o ∈ ops, OkL o) (hn : ops.length ≤ 1048576) :
    Calls Tryz.prog 12 #[.agg #[g0, g1, g2, g3], sv, .int .i64 1, .int .i64 6] W0 fun e w' => e = .returned (.bool true) ∧ Below W0.heap.size W0 w' := by
  have HG := hide hG
  have HLE := hide hLe
  have HTX := hide hT
  have HTE := hide hTe
  have HO := hide hO
  have HOK := hide hOk
  obtain ⟨sa, sc, rfl, hsc, hsm⟩ := rdO_len hO
  unfold maxLen at hsm
  obtain ⟨a0, c0, rfl, _, _, _⟩ := hG
  obtain ⟨a1, c1, rfl, _, _, _⟩ := hT
  obtain ⟨ga, gn, gc, rfl⟩ := hs2
  obtain ⟨a3, n3, c3, rfl⟩ := hs3
  generalize hn0 : Ls.length = n0 at *
  generalize hn1 : Ts.length = n1 at *
  have HN0 := hide hn0
  have HN1 := hide hn1
  clear hn0 hn1
  have HB1 := hide (below_alloc W0 (Obj.cells #[.slice a0 n0 c0, .slice a1 n1 c1, .slice ga gn gc, .slice a3 n3 c3] 27))
  have HGB := hide (alloc_new W0 (Obj.cells #[.slice a0 n0 c0, .slice a1 n1 c1, .slice ga gn gc, .slice a3 n3 c3] 27) W0.heap.size rfl)
  have hlt1 : W0.heap.size < (W0.alloc (Obj.cells #[.slice a0 n0 c0, .slice a1 n1 c1, .slice ga gn gc, .slice a3 n3 c3] 27)).heap.size := by simp
  clear hLe hTe hO hOk
  generalize hon : ops.length = on at *
  have HON := hide hon
  clear hon
  go_enter Tryz.func12, Tryz.ntmps12
  go_wp2_with fail
  generalize W0.alloc (Obj.cells #[.slice a0 n0 c0, .slice a1 n1 c1, .slice ga gn gc, .slice a3 n3 c3] 27) = w1 at *
  refine (knownL_any w1).mono ?_
  rintro e w2 ⟨k0, k1, k2, k3, ⟨p0, q0, r0, rfl⟩, ⟨p2, q2, r2, rfl⟩, ⟨p3, q3, r3, rfl⟩, rfl, hb2, hk2, hk1⟩
  have HB2 := hide hb2
  have HK2 := hide hk2
  have HK1 := hide hk1
  have hs2 := hb2.size
  obtain ⟨p1, r1, rfl, _, _, _⟩ := hk1
  clear hb2
  have HS3 := hide (LInv.new w2 (.slice p0 q0 r0) (.slice p1 2 r1) (.slice p2 q2 r2) (.slice p3 q3 r3) ⟨_, _, _, rfl⟩)
  have HB3 := hide (below_alloc w2 (Obj.cells #[.slice p0 q0 r0, .slice p1 2 r1, .slice p2 q2 r2, .slice p3 q3 r3, .slice none 0 0, .slice none 0 0, .slice none 0 0, .slice none 0 0, .slice none 0 0, .slice none 0 0, .slice none 0 0, .slice none 0 0, .slice none 0 0, .slice none 0 0, .slice none 0 0] 91))
  go_wp2_with fail
  generalize w2.alloc (Obj.cells #[.slice p0 q0 r0, .slice p1 2 r1, .slice p2 q2 r2, .slice p3 q3 r3, .slice none 0 0, .slice none 0 0, .slice none 0 0, .slice none 0 0, .slice none 0 0, .slice none 0 0, .slice none 0 0, .slice none 0 0, .slice none 0 0, .slice none 0 0, .slice none 0 0] 91) = w3 at *
  refine (opening_any w3).mono ?_
  rintro e w4 ⟨og, rfl, hb4, hbl4⟩
  have HS4 := hide (HS3.out.below hb4)
  have HB4 := hide (HB3.out.trans (hb4.mono HB3.out.size))
  have HBL4 := hide hbl4
  have HB02 : Hid (Below W0.heap.size W0 w2) := HB1.out.trans (HB2.out.mono HB1.out.size)
  have hso := opn_okL pkS
  have HSO := hide hso
  clear hb4 hbl4 hso HS3 HB3
  generalize hOP : opn pkS = OP at *
  have hol : Hid (OP.length = 27) := by show _ = _; rw [← hOP]; rfl
  clear hOP
  go_wp2_with fail
  go_loopw [11] (fun i wr => ∃ k : Nat, k ≤ 27 ∧ i = .int .i64 k ∧ Below w2.heap.size w2 wr ∧ LInv wr w2.heap.size w2.heap.size (.slice p0 q0 r0) (.slice p1 2 r1) (.slice p2 q2 r2) (.slice p3 q3 r3) (3 * k) ∧ Blk wr og 94 (OP.flatMap oC)) (fun i _ => 27 - (intOf i).toNat)
  case atStart => exact ⟨0, by omega, rfl, HB4.out, HS4.out, HBL4.out⟩
  case round =>
    obtain ⟨k, hk, rfl, hb, hsi, hbl⟩ := hrel
    have HB := hide hb
    have HSI := hide hsi
    have HBL := hide hbl
    clear hb hsi hbl
    by_cases hlt : k < 27
    · have hrd := rdO_blk HBL.out (by rw [hol.out]; omega)
      rw [hol.out] at hrd
      obtain ⟨b, o, e, _, c0', c1', c2', c3', c4', c5'⟩ := rdO_at hrd k (by rw [hol.out]; exact hlt)
      injection e with e
      injection e with e1 e2
      subst e1 e2
      have hok := HSO.out _ (getD_mem (l := OP) (j := k) (by rw [hol.out]; exact hlt) o0)
      generalize OP.getD k o0 = op at *
      by_cases h7 : 1 ≤ op.k
      · by_cases h9 : op.k ≤ 6
        · have CS := hide (stepL_any w2 wr w2.heap.size _ _ _ _ _ _ (3 * k) op HB.out HSI.out HK2.out (by intro E hE; simp at hE; rcases hE with rfl | rfl <;> simp) (by simp) HK1.out (by intro E hE; simp at hE; rcases hE with rfl | rfl <;> simp) (by simp) hok ⟨h7, h9⟩ (by omega))
          obtain ⟨ok, oA, oB, oC', oS, oT⟩ := op
          simp only [oV] at CS c0' c1' c2' c3' c4' c5' h7 h9
          simp only [Nat.zero_add] at c0' c1' c2' c3' c4' c5'
          clear hok hrd
          go_wp2_with fail
          refine CS.out.mono ?_
          rintro e w5 ⟨rfl, h2, h1, h3⟩
          have H1 := hide h1
          have H2 := hide h2
          have H3 := hide (HBL.out.keepO h3)
          clear h1 h2 h3 CS c0' c1' c2' c3' c4' c5'
          go_wp2
          go_roundw
          case rel => exact ⟨k + 1, by omega, by go_num, H1.out, H2.out, H3.out⟩
          case measure => simp [intOf]; omega
        · obtain ⟨ok, oA, oB, oC', oS, oT⟩ := op
          simp only at c0' h7 h9
          simp only [Nat.zero_add] at c0'
          clear hok hrd c1' c2' c3' c4' c5'
          go_wp2
          go_roundw
          case rel => exact ⟨k + 1, by omega, by go_num, HB.out, (HSI.out.mono (by omega)), HBL.out⟩
          case measure => simp [intOf]; omega
      · obtain ⟨ok, oA, oB, oC', oS, oT⟩ := op
        simp only at c0' h7
        simp only [Nat.zero_add] at c0'
        clear hok hrd c1' c2' c3' c4' c5'
        go_wp2
        go_roundw
        case rel => exact ⟨k + 1, by omega, by go_num, HB.out, (HSI.out.mono (by omega)), HBL.out⟩
        case measure => simp [intOf]; omega
    · have HGW := hide ((HB.out.block W0.heap.size (by omega)).trans ((HB2.out.block W0.heap.size hlt1).trans HGB.out))
      obtain ⟨x0, _⟩ := cell_of (j := 0) (u := .slice a0 n0 c0) HGW.out rfl
      obtain ⟨x1, _⟩ := cell_of (j := 1) (u := .slice a1 n1 c1) HGW.out rfl
      obtain ⟨x2, _⟩ := cell_of (j := 2) (u := .slice ga gn gc) HGW.out rfl
      obtain ⟨x3, _⟩ := cell_of (j := 3) (u := .slice a3 n3 c3) HGW.out rfl
      have HB0 : Hid (Below W0.heap.size W0 wr) := HB02.out.trans (HB.out.mono HB02.out.size)
      have HG5 := hide (HG.out.below HB0.out)
      have HTX5 := hide (HTX.out.below HB0.out)
      have HS6 := hide (LInv.new wr (.slice a0 n0 c0) (.slice a1 n1 c1) (.slice ga gn gc) (.slice a3 n3 c3) ⟨_, _, _, rfl⟩)
      have HB6 := hide (below_alloc wr (Obj.cells #[.slice a0 n0 c0, .slice a1 n1 c1, .slice ga gn gc, .slice a3 n3 c3, .slice none 0 0, .slice none 0 0, .slice none 0 0, .slice none 0 0, .slice none 0 0, .slice none 0 0, .slice none 0 0, .slice none 0 0, .slice none 0 0, .slice none 0 0, .slice none 0 0] 91))
      clear HSI HBL HGW HSO
      go_wp2_with fail
      generalize wr.alloc (Obj.cells #[.slice a0 n0 c0, .slice a1 n1 c1, .slice ga gn gc, .slice a3 n3 c3, .slice none 0 0, .slice none 0 0, .slice none 0 0, .slice none 0 0, .slice none 0 0, .slice none 0 0, .slice none 0 0, .slice none 0 0, .slice none 0 0, .slice none 0 0, .slice none 0 0] 91) = w6 at *
      clear x0 x1 x2 x3
      generalize wr = Win at *
      go_loopw [14] (fun i wr => ∃ k : Nat, k ≤ on ∧ i = .int .i64 k ∧ Below Win.heap.size Win wr ∧ LInv wr Win.heap.size Win.heap.size (.slice a0 n0 c0) (.slice a1 n1 c1) (.slice ga gn gc) (.slice a3 n3 c3) (3 * k)) (fun i _ => on - (intOf i).toNat)
      case atStart => exact ⟨0, by omega, rfl, HB6.out, HS6.out⟩
      case round =>
        obtain ⟨k, hk, rfl, hb, hsi⟩ := hrel
        have HBB := hide hb
        have HSI := hide hsi
        have HB0w : Hid (Below W0.heap.size W0 wr) := HB0.out.trans (hb.mono HB0.out.size)
        clear hb hsi
        by_cases hlt2 : k < on
        · obtain ⟨b, o, rfl, _, c0', c1', c2', c3', c4', c5'⟩ := rdO_at (HO.out.below HB0w.out) k (by rw [HON.out]; exact hlt2)
          have hok := HOK.out _ (getD_mem (l := ops) (j := k) (by rw [HON.out]; exact hlt2) o0)
          generalize ops.getD k o0 = op at *
          by_cases h7 : 1 ≤ op.k
          · by_cases h9 : op.k ≤ 6
            · have CS := hide (stepL_any Win wr Win.heap.size _ _ _ _ Ls Ts (3 * k) op HBB.out HSI.out HG5.out HLE.out (by rw [HN0.out]; exact hLs) HTX5.out HTE.out (by rw [HN1.out]; exact hTs) hok ⟨h7, h9⟩ (by omega))
              obtain ⟨ok, oA, oB, oC', oS, oT⟩ := op
              simp only [oV] at CS c0' c1' c2' c3' c4' c5' h7 h9
              clear hok
              go_wp2_with fail
              refine CS.out.mono ?_
              rintro e w7 ⟨rfl, h2, h1, _⟩
              have H1 := hide h1
              have H2 := hide h2
              have CW := hide (wholeL_any w7 _ _ _ _ _ _ _ h2 (by omega))
              clear h1 h2 CS c0' c1' c2' c3' c4' c5'
              go_wp2_with fail
              refine CW.out.mono ?_
              rintro e w8 ⟨rfl, hb8⟩
              have H8 := hide (H1.out.trans (hb8.mono H1.out.size))
              have S8 := hide (H2.out.below hb8)
              clear hb8 CW
              go_wp2
              go_roundw
              case rel => exact ⟨k + 1, by omega, by go_num, H8.out, S8.out⟩
              case measure => simp [intOf]; omega
            · obtain ⟨ok, oA, oB, oC', oS, oT⟩ := op
              simp only at c0' h7 h9
              clear hok c1' c2' c3' c4' c5'
              go_wp2
              go_roundw
              case rel => exact ⟨k + 1, by omega, by go_num, HBB.out, (HSI.out.mono (by omega))⟩
              case measure => simp [intOf]; omega
          · obtain ⟨ok, oA, oB, oC', oS, oT⟩ := op
            simp only at c0' h7
            clear hok c1' c2' c3' c4' c5'
            go_wp2
            go_roundw
            case rel => exact ⟨k + 1, by omega, by go_num, HBB.out, (HSI.out.mono (by omega))⟩
            case measure => simp [intOf]; omega
        · go_wp2
          go_ret
          exact ⟨rfl, HB0w.out⟩

set_option maxRecDepth 100000 in
set_option maxHeartbeats 1000000 in
theorem lawL_any (W0 : World) (g0 g1 g2 g3 sv : Value) (Ls : List (List Int)) (Ts : List (List ByteArray)) (ops : List Opr) (hs2 : ∃ a n c, g2 = .slice a n c) (hs3 : ∃ a n c, g3 = .slice a n c) (hG : WI.RdL W0 g0 Ls) (hLe : ∀ L ∈ Ls, L.length ≤ 1048576) (hLs : Ls.length ≤ 1048576) (hT : Str.RdL W0 g1 Ts) (hTe : ∀ L ∈ Ts, L.length ≤ 1048576) (hTs : Ts.length ≤ 1048576) (hO : RdO W0 sv ops) (hOk : ∀ o ∈ ops, OkL o) (hn : ops.length ≤ 1048576) :
    Calls Tryz.prog 3 #[.agg #[g0, g1, g2, g3], sv] W0 fun e w' => e = .returned (.bool true) ∧ Below W0.heap.size W0 w' := by
  have HB1 := hide (below_alloc W0 (Obj.cells #[g0, g1, g2, g3] 27))
  have CP := hide (playsL_any _ g0 g1 g2 g3 sv Ls Ts ops hs2 hs3 (hG.below HB1.out) hLe hLs (hT.below HB1.out) hTe hTs (hO.below HB1.out) hOk hn)
  obtain ⟨a0, c0, rfl, _, _, _⟩ := hG
  obtain ⟨a1, c1, rfl, _, _, _⟩ := hT
  obtain ⟨sa, sc, rfl, _, _⟩ := rdO_len hO
  obtain ⟨ga, gn, gc, rfl⟩ := hs2
  obtain ⟨a3, n3, c3, rfl⟩ := hs3
  clear hLe hTe hO hOk
  go_enter Tryz.func3, Tryz.ntmps3
  go_wp2_with fail
  refine CP.out.mono ?_
  rintro e w' ⟨rfl, hb⟩
  have HB := hide (HB1.out.trans (hb.mono HB1.out.size))
  clear hb CP
  go_wp2
  go_ret
  exact ⟨rfl, HB.out⟩
end Go.Proofs.YtkncboinfcnklaaGreatDoor
