import Derived.Test.YtkncboinfcnklaaGreatDoorL5
namespace Go.Proofs.YtkncboinfcnklaaGreatDoor
open Go.RowKit Go.Deep Go.Proofs.YtkncboinfcnklaaGreatDoor.Mth

theorem Tryz.info169 : (Tryz.prog.info? 169).map (fun i => (i.zero, i.size, i.bytes)) = some (some (.agg #[.slice none 0 0, .slice none 0 0, .slice none 0 0, .slice none 0 0, .int .i64 0]), 5, 104) := by kernel_rfl

theorem fE_shift (N n j : Nat) : fE N (n * 3 + j) = fE N j := by
  unfold fE
  rw [show (n * 3 + j) % 3 = j % 3 by omega]
/-- What an entry's mark is made of. -/
def eM (N : Nat) : List Value := [.int .i64 (-1000 - (N : Int)), .int .i64 0, .string ⟨#[]⟩]
theorem fE_news (N n : Nat) : (List.range (1 * 3)).map (fun j => fE N (n * 3 + j)) = eM N ∧ (List.range (2 * 3)).map (fun j => fE N (n * 3 + j)) = eM N ++ eM N ∧ (List.range (3 * 3)).map (fun j => fE N (n * 3 + j)) = eM N ++ eM N ++ eM N := by
  simp only [fE_shift]
  refine ⟨?_, ?_, ?_⟩
  all_goals simp [List.range_succ, fE, eM]

set_option maxRecDepth 100000 in
set_option maxHeartbeats 2000000 in
theorem keepEntries_any (w : World) (B0 wb B : Nat) (v tv : Value) (n N : Nat) (ys xs : List Value) (C : Array Value) (hown : w.ownsRow B0 66 3 v n ys) (hwb : wb < B0) (hB0 : B0 ≤ w.heap.size) (hC : w.heap[wb]? = some (Obj.cells C 91 (0, 0))) (hCs : C.size = 15) (hct : C[12]? = some tv)
    (hrow : w.ownsRow B 169 5 tv N xs) (htv : ∀ g, some g = tv.ownBlock → g < B0) (hBB : B ≤ B0) (hn : n ≤ 4194304) (hN : N ≤ 4194304) :
    Calls Tryz.prog 121 #[.pointer (some ⟨wb, 9, none⟩), v] w fun e w' => e = .returned (.tuple #[]) ∧ ∃ tv' va vb vc, Kept w w' B0 wb 12 B 169 66 3 (fE N) tv tv' N xs C ⟨v, va, vb, vc⟩ n := by
  obtain ⟨i0, hi0, hz0, hz1, hz2⟩ := info_parts Tryz.info66
  obtain ⟨j0, hj0, hy0, hy1, hy2⟩ := info_parts Tryz.info169
  have hyl := hown.1
  have HOWN := hide hown
  have HC := hide hC
  have HROW := hide hrow
  have HTV := hide htv
  have c12 := (cell_of hC hct).1
  have hv : ∃ a c, v = .slice a n c ∧ n ≤ c ∧ c ≤ maxLen := by
    rcases hown.2 with ⟨rfl, rfl⟩ | ⟨g, cap, cur, rfl, _, _, h1, h2, _⟩
    · exact ⟨none, 0, rfl, Nat.le_refl _, by unfold maxLen; omega⟩
    · exact ⟨_, cap, rfl, h1, h2⟩
  have htvv : ∃ a c, tv = .slice a N c ∧ N ≤ c ∧ c ≤ maxLen := by
    rcases hrow.2 with ⟨rfl, rfl⟩ | ⟨g, cap, cur, rfl, _, _, h1, h2, _⟩
    · exact ⟨none, 0, rfl, Nat.le_refl _, by unfold maxLen; omega⟩
    · exact ⟨_, cap, rfl, h1, h2⟩
  obtain ⟨a, c, rfl, hnc, hcm⟩ := hv
  obtain ⟨ta, tc, rfl, hNc, hNm⟩ := htvv
  unfold maxLen at hcm hNm
  have HCT := hide hct
  have HCS := hide hCs
  clear hown hC hrow htv hct
  go_enter Tryz.func121, Tryz.ntmps121
  go_wp2_with fail
  have HB1 := hide (below_alloc w (Obj.cells #[.int .i64 (-1000 - (N : Int)), .int .i64 0, .string ⟨#[]⟩] 66))
  have HM1 : Hid ((w.alloc (Obj.cells #[.int .i64 (-1000 - (N : Int)), .int .i64 0, .string ⟨#[]⟩] 66)).heap[w.heap.size]? = some (Obj.cells #[.int .i64 (-1000 - (N : Int)), .int .i64 0, .string ⟨#[]⟩] 66 (0, 0))) := by
    show (w.heap.push _)[w.heap.size]? = _
    rw [Array.getElem?_push, if_pos rfl]
  have HNM : Hid (some w.heap.size ≠ (Value.slice a n c).ownBlock) := fun q => by have := (own_block HOWN.out q).2.1; omega
  have hmB : B0 ≤ w.heap.size := hB0
  have hmlt : w.heap.size < (w.alloc (Obj.cells #[.int .i64 (-1000 - (N : Int)), .int .i64 0, .string ⟨#[]⟩] 66)).heap.size := by simp
  generalize w.alloc (Obj.cells #[.int .i64 (-1000 - (N : Int)), .int .i64 0, .string ⟨#[]⟩] 66) = w1 at *
  have HOWN1 := hide (HOWN.out.kept (row := none) ⟨HB1.out.os, HB1.out.tape, HB1.out.output, HB1.out.size, fun k hk _ => HB1.out.block k hk⟩ (by cases (Value.slice a n c).ownBlock <;> simp))
  clear HOWN c12
  go_loopw [6] (fun i wr => ∃ k : Nat, k ≤ n ∧ i = .int .i64 k ∧ wr.ownsRow B0 66 3 (.slice a n c) n (mkTo (fE N) ys (k * 3)) ∧ w1.grownBy wr (Value.slice a n c).ownBlock) (fun i _ => n - (intOf i).toNat)
  case atStart => exact ⟨0, Nat.zero_le _, rfl, by simpa [mkTo, mks] using HOWN1.out, ⟨rfl, rfl, rfl, Nat.le_refl _, fun _ _ _ => rfl⟩⟩
  case round =>
    obtain ⟨k, hk, rfl, ho, hg⟩ := hrel
    have HO := hide ho
    have HG := hide hg
    clear ho hg
    by_cases hlt : k < n
    · have hsome : ∃ g, a = some ⟨g, 0, none⟩ := by
        rcases HO.out.2 with ⟨q, q2⟩ | ⟨g, cap, cur, q, _⟩
        · omega
        · injection q with q; exact ⟨g, q⟩
      obtain ⟨g, rfl⟩ := hsome
      obtain ⟨⟨y0, hcell0⟩, hfr0⟩ := own_at HO.out (i := k * 3) (by omega)
      obtain ⟨⟨y1, hcell1⟩, hfr1⟩ := own_at HO.out (i := k * 3 + 1) (by omega)
      obtain ⟨⟨y2, hcell2⟩, hfr2⟩ := own_at HO.out (i := k * 3 + 2) (by omega)
      have HMR := hide ((HG.out.block w.heap.size (by omega) HNM.out).trans HM1.out)
      have m0 := (cell_of (j := 0) (u := .int .i64 (-1000 - (N : Int))) HMR.out rfl).1
      have m1 := (cell_of (j := 1) (u := .int .i64 0) HMR.out rfl).1
      have m2 := (cell_of (j := 2) (u := .string ⟨#[]⟩) HMR.out rfl).1
      go_wp2
      go_roundw
      case rel =>
        refine ⟨k + 1, by omega, by go_num, ?_, ⟨HG.out.os, HG.out.tape, HG.out.output, by have := HG.out.size; simpa using this, fun q hq hne => ?_⟩⟩
        · have t0 := own_store (y := fE N (k * 3)) HO.out (i := k * 3) (by omega)
          rw [mkTo_set (f := fE N) (by rw [hyl]; omega)] at t0
          have t1 := own_store (y := fE N (k * 3 + 1)) t0 (i := k * 3 + 1) (by omega)
          rw [mkTo_set (f := fE N) (by rw [hyl]; omega)] at t1
          have t2 := own_store (y := fE N (k * 3 + 2)) t1 (i := k * 3 + 2) (by omega)
          rw [mkTo_set (f := fE N) (by rw [hyl]; omega)] at t2
          rw [fE_shift N k 1, fE_shift N k 2, show fE N (k * 3) = fE N 0 from fE_shift N k 0] at t2
          rw [show (k + 1) * 3 = k * 3 + 2 + 1 by omega]
          exact t2
        · rw [set_other (fun e => hne (by simp [Value.ownBlock, e])), set_other (fun e => hne (by simp [Value.ownBlock, e])), set_other (fun e => hne (by simp [Value.ownBlock, e]))]
          exact HG.out.block q hq hne
      case measure => simp [intOf]; omega
    · have hke : k = n := by omega
      subst hke
      have HO2 : Hid (wr.ownsRow B0 66 3 (.slice a k c) k (mks (fE N) (k * 3))) := by
        have := HO.out
        rw [mkTo_full (by rw [hyl]; omega)] at this
        exact this
      have HSAME : Hid (∀ g : Nat, g < B0 → wr.heap[g]? = w.heap[g]?) := by
        intro g hg
        have hs1 := HB1.out.size
        rw [HG.out.block g (by omega) (fun q => by have := (own_block HOWN1.out q).1; omega)]
        exact HB1.out.block g (by omega)
      have hsz : w.heap.size ≤ wr.heap.size := Nat.le_trans HB1.out.size HG.out.size
      have K0 : Hid (KSt w (wr.alloc (Obj.cells #[.slice a k c, .slice none 0 0, .slice none 0 0, .slice none 0 0, .int .i64 (N : Int)] 169)) B0 wr.heap.size 169 66 3 (.slice a k c) k (fE N) #[.slice a k c, .slice none 0 0, .slice none 0 0, .slice none 0 0, .int .i64 (N : Int)] []) := by
        refine ⟨HO2.out.alloc _, ?_, by omega, fun g hg => ?_, HG.out.os.trans HB1.out.os, HG.out.tape.trans HB1.out.tape, HG.out.output.trans HB1.out.output, by simp; omega, fun p hp => by cases hp⟩
        · show (wr.heap.push _)[wr.heap.size]? = _
          rw [Array.getElem?_push, if_pos rfl]
        · rw [_root_.Go.heap_alloc_old wr _ (r := g) (by omega)]
          exact HSAME.out g hg
      have hwlt : w.heap.size < wr.heap.size := Nat.lt_of_lt_of_le hmlt HG.out.size
      have Q0 := hide ((_root_.Go.heap_alloc_old wr (Obj.cells #[.slice a k c, .slice none 0 0, .slice none 0 0, .slice none 0 0, .int .i64 (N : Int)] 169) (r := w.heap.size) hwlt).trans ((HG.out.block w.heap.size (by omega) HNM.out).trans HM1.out))
      have p0 := (cell_of (j := 0) (u := .int .i64 (-1000 - (N : Int))) Q0.out rfl).1
      have q0 := (cell_of (j := 1) (u := .int .i64 0) Q0.out rfl).1
      have s0 := (cell_of (j := 2) (u := .string ⟨#[]⟩) Q0.out rfl).1
      clear HO HG HOWN1 HB1
      go_wp2_with (first
        | (at_builtin; refine wpList_append_keep _ rfl (.tmp 29) (.tmp 31) 57 rfl B0 66 i0 (.agg #[.int .i64 0, .int .i64 0, .string ByteArray.empty]) 3 32 Tryz.underlying57 hi0 hz0 hz1 hz2 rfl (by decide) _ _ _ rfl (K0.out.own.alloc _) ⟨_, 0, none⟩ 1 1 [.int .i64 (-1000 - (N : Int)), .int .i64 0, .string ⟨#[]⟩] rfl rfl (cells_new2 _ _ (by simp) _ _ _ rfl) (by intro u hu; simp only [List.mem_cons, List.not_mem_nil, or_false] at hu; rcases hu with rfl | rfl | rfl <;> rfl) (by unfold maxLen; omega) (by omega) (by have := K0.out.size; simp at this ⊢; omega) (by omega) ?_; intro v1 W1 o1 g1 k1 r1; obtain ⟨a1, c1, rfl, _, _⟩ := own_slice o1; have K1 := hide (KSt.app (i := 1) (m := 1) K0.out (by decide) (by rw [(fE_news N k).1]; exact o1) g1 k1 r1 (by simp)); obtain ⟨hx1, hf1⟩ := cell_of (j := 1) (u := .slice none 0 0) (KSt.x2 K0.out (by decide) g1) rfl; have Q1 := hide ((set_other (w := W1) (nb := wr.heap.size) (k := w.heap.size) (o := 1) (u := .slice a1 (k + 1) c1) (by omega)).trans (beside g1 Q0.out HNM.out)); have p1 := (cell_of (j := 0) (u := .int .i64 (-1000 - (N : Int))) Q1.out rfl).1; have q1 := (cell_of (j := 1) (u := .int .i64 0) Q1.out rfl).1; have s1 := (cell_of (j := 2) (u := .string ⟨#[]⟩) Q1.out rfl).1; clear o1 g1 k1 r1)
        | (at_builtin; refine wpList_append_keep _ rfl (.tmp 34) (.tmp 37) 57 rfl B0 66 i0 (.agg #[.int .i64 0, .int .i64 0, .string ByteArray.empty]) 3 32 Tryz.underlying57 hi0 hz0 hz1 hz2 rfl (by decide) _ _ _ rfl (K1.out.own.alloc _) ⟨_, 0, none⟩ 2 2 [.int .i64 (-1000 - (N : Int)), .int .i64 0, .string ⟨#[]⟩, .int .i64 (-1000 - (N : Int)), .int .i64 0, .string ⟨#[]⟩] rfl rfl (cells_new2 _ _ (by simp) _ _ _ rfl) (by intro u hu; simp only [List.mem_cons, List.not_mem_nil, or_false] at hu; rcases hu with rfl | rfl | rfl | rfl | rfl | rfl <;> rfl) (by unfold maxLen; omega) (by omega) (by have := K1.out.size; simp at this ⊢; omega) (by omega) ?_; intro v2 W2 o2 g2 k2 r2; obtain ⟨a2, c2, rfl, _, _⟩ := own_slice o2; have K2 := hide (KSt.app (i := 2) (m := 2) K1.out (by decide) (by rw [(fE_news N k).2.1]; exact o2) g2 k2 r2 (by simp)); obtain ⟨hx2, hf2⟩ := cell_of (j := 2) (u := .slice none 0 0) (KSt.x2 K1.out (by decide) g2) rfl; have Q2 := hide ((set_other (w := W2) (nb := wr.heap.size) (k := w.heap.size) (o := 2) (u := .slice a2 (k + 2) c2) (by omega)).trans (beside g2 Q1.out HNM.out)); have p2 := (cell_of (j := 0) (u := .int .i64 (-1000 - (N : Int))) Q2.out rfl).1; have q2 := (cell_of (j := 1) (u := .int .i64 0) Q2.out rfl).1; have s2 := (cell_of (j := 2) (u := .string ⟨#[]⟩) Q2.out rfl).1; clear o2 g2 k2 r2)
        | (at_builtin; refine wpList_append_keep _ rfl (.tmp 40) (.tmp 44) 57 rfl B0 66 i0 (.agg #[.int .i64 0, .int .i64 0, .string ByteArray.empty]) 3 32 Tryz.underlying57 hi0 hz0 hz1 hz2 rfl (by decide) _ _ _ rfl (K2.out.own.alloc _) ⟨_, 0, none⟩ 3 3 [.int .i64 (-1000 - (N : Int)), .int .i64 0, .string ⟨#[]⟩, .int .i64 (-1000 - (N : Int)), .int .i64 0, .string ⟨#[]⟩, .int .i64 (-1000 - (N : Int)), .int .i64 0, .string ⟨#[]⟩] rfl rfl (cells_new2 _ _ (by simp) _ _ _ rfl) (by intro u hu; simp only [List.mem_cons, List.not_mem_nil, or_false] at hu; rcases hu with rfl | rfl | rfl | rfl | rfl | rfl | rfl | rfl | rfl <;> rfl) (by unfold maxLen; omega) (by omega) (by have := K2.out.size; simp at this ⊢; omega) (by omega) ?_; intro v3 W3 o3 g3 k3 r3; obtain ⟨a3, c3, rfl, _, _⟩ := own_slice o3; have K3 := hide (KSt.app (i := 3) (m := 3) K2.out (by decide) (by rw [(fE_news N k).2.2]; exact o3) g3 k3 r3 (by simp)); obtain ⟨hx3, hf3⟩ := cell_of (j := 3) (u := .slice none 0 0) (KSt.x2 K2.out (by decide) g3) rfl; have Q3 := hide ((set_other (w := W3) (nb := wr.heap.size) (k := w.heap.size) (o := 3) (u := .slice a3 (k + 3) c3) (by omega)).trans (beside g3 Q2.out HNM.out)); have p3 := (cell_of (j := 0) (u := .int .i64 (-1000 - (N : Int))) Q3.out rfl).1; have q3 := (cell_of (j := 1) (u := .int .i64 0) Q3.out rfl).1; have s3 := (cell_of (j := 2) (u := .string ⟨#[]⟩) Q3.out rfl).1; clear o3 g3 k3 r3))
      clear hx1 hf1 hx2 hf2 hx3 hf3 K0 K1 K2 HO2 p0 q0 s0 p1 q1 s1 p2 q2 s2 p3 q3 s3 Q0 Q1 Q2 Q3
      have HXX := hide K3.out.x
      have hge := K3.out.ge
      have hWsz := K3.out.size
      obtain ⟨e0, _⟩ := cell_of (j := 0) (u := .slice a k c) K3.out.x rfl
      obtain ⟨e1, _⟩ := cell_of (j := 1) (u := .slice a1 (k + 1) c1) K3.out.x rfl
      obtain ⟨e2, _⟩ := cell_of (j := 2) (u := .slice a2 (k + 2) c2) K3.out.x rfl
      obtain ⟨e3, _⟩ := cell_of (j := 3) (u := .slice a3 (k + 3) c3) K3.out.x rfl
      obtain ⟨e4, _⟩ := cell_of (j := 4) (u := .int .i64 (N : Int)) K3.out.x rfl
      have HWB := hide ((K3.out.same wb hwb).trans HC.out)
      obtain ⟨ew, ef⟩ := cell_of (j := 12) (u := .slice ta N tc) HWB.out HCT.out
      have HRW := hide (own_same HROW.out (fun g hg => K3.out.same g (HTV.out g hg)))
      have hnx : Hid (some wr.heap.size ≠ (Value.slice ta N tc).ownBlock) := fun q => by have := HTV.out _ q; omega
      have hnw : Hid (some wb ≠ (Value.slice ta N tc).ownBlock) := fun q => by
        obtain ⟨_, _, D, hD⟩ := own_block HROW.out q
        rw [HC.out] at hD
        injection hD with hD
        injection hD with _ hD _
        exact absurd hD (by decide)
      generalize W3.setCell ⟨wr.heap.size, 3, none⟩ (.slice a3 (k + 3) c3) = W at *
      generalize wr.heap.size = xb at *
      have ew2 : (W.alloc (Obj.cells #[.slice a k c, .slice a1 (k + 1) c1, .slice a2 (k + 2) c2, .slice a3 (k + 3) c3, .int .i64 (N : Int)] 169)).cell? ⟨wb, 12, none⟩ = some (.slice ta N tc) := ((below_alloc W _).cell (p := ⟨wb, 12, none⟩) (World.block_lt_of_cell? _ _ ew)).trans ew
      go_region_law (refine step_own _ rfl _ _ 85 rfl B 169 j0 (.agg #[.slice none 0 0, .slice none 0 0, .slice none 0 0, .slice none 0 0, .int .i64 0]) 5 104 Tryz.underlying85 hj0 hy0 hy1 hy2 rfl (by decide) _ _ _ rfl (by exact HRW.out.alloc _) ⟨W.heap.size, 0, none⟩ 1 1 [.slice a k c, .slice a1 (k + 1) c1, .slice a2 (k + 2) c2, .slice a3 (k + 3) c3, .int .i64 (N : Int)] rfl rfl (by exact cells_new _ _ _ _ rfl) (by intro u hu; simp at hu; rcases hu with rfl | rfl | rfl | rfl | rfl <;> rfl) (by unfold maxLen; omega) (by omega) (by simp; omega) ?_; intro tv5 W5 o5 g5; obtain ⟨a5, c5, rfl, _, _⟩ := own_slice o5; have g6 : (W.alloc (Obj.cells #[.slice a k c, .slice a1 (k + 1) c1, .slice a2 (k + 2) c2, .slice a3 (k + 3) c3, .int .i64 (N : Int)] 169)).grownBy W5 (Value.slice ta N tc).ownBlock := ⟨g5.os, g5.tape, g5.output, g5.size, g5.block⟩; have KF := hide (kept_of (off := 12) K3.out (by decide) (by decide) (by decide) hwb HC.out HRW.out o5 g6 hB0); obtain ⟨f0, _⟩ := cell_of (j := 0) (u := .slice a k c) (beside g6 HXX.out hnx.out) rfl; obtain ⟨f1, _⟩ := cell_of (j := 1) (u := .slice a1 (k + 1) c1) (beside g6 HXX.out hnx.out) rfl; obtain ⟨f2, _⟩ := cell_of (j := 2) (u := .slice a2 (k + 2) c2) (beside g6 HXX.out hnx.out) rfl; obtain ⟨f3, _⟩ := cell_of (j := 3) (u := .slice a3 (k + 3) c3) (beside g6 HXX.out hnx.out) rfl; obtain ⟨f4, _⟩ := cell_of (j := 4) (u := .int .i64 (N : Int)) (beside g6 HXX.out hnx.out) rfl; obtain ⟨fw, ff⟩ := cell_of (j := 12) (u := .slice ta N tc) (beside g6 HWB.out hnw.out) HCT.out; clear o5 g5 g6)
      all_goals (go_wp2; go_end0; exact ⟨rfl, _, _, _, _, KF.out⟩)
end Go.Proofs.YtkncboinfcnklaaGreatDoor
