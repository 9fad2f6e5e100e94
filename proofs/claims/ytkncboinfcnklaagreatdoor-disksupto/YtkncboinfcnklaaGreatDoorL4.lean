import Derived.Test.YtkncboinfcnklaaGreatDoorL3
import Derived.Deep.RegionLaw
namespace Go.Proofs.YtkncboinfcnklaaGreatDoor
open Go.RowKit Go.Deep Go.Proofs.YtkncboinfcnklaaGreatDoor.Mth

theorem Tryz.info166 : (Tryz.prog.info? 166).map (fun i => (i.zero, i.size, i.bytes)) = some (some (.agg #[.slice none 0 0, .slice none 0 0, .slice none 0 0, .slice none 0 0, .int .i64 0]), 5, 104) := by kernel_rfl

/-- The marks laid over a list, one by one. -/
def mkTo (f : Nat → Value) (xs : List Value) (k : Nat) : List Value := mks f k ++ xs.drop k
theorem mkTo_set {f : Nat → Value} {xs : List Value} {k : Nat} (h : k < xs.length) : (mkTo f xs k).set k (f k) = mkTo f xs (k + 1) := by
  unfold mkTo
  rw [List.set_append_right _ _ (by rw [mks_len]; exact Nat.le_refl _), mks_len, Nat.sub_self, List.drop_eq_getElem_cons h, List.set_cons_zero]
  unfold mks
  rw [List.range_succ, List.map_append, List.append_assoc]
  rfl
theorem mkTo_full {f : Nat → Value} {xs : List Value} {k : Nat} (h : xs.length ≤ k) : mkTo f xs k = mks f k := by
  unfold mkTo
  rw [List.drop_eq_nil_of_le h, List.append_nil]

set_option maxRecDepth 100000 in
set_option maxHeartbeats 2000000 in
theorem keepTexts_any (w : World) (B0 wb B : Nat) (v tv : Value) (n N : Nat) (ys xs : List Value) (C : Array Value) (hown : w.ownsRow B0 9 1 v n ys) (hwb : wb < B0) (hB0 : B0 ≤ w.heap.size) (hC : w.heap[wb]? = some (Obj.cells C 91 (0, 0))) (hCs : C.size = 15) (hct : C[11]? = some tv)
    (hrow : w.ownsRow B 166 5 tv N xs) (htv : ∀ g, some g = tv.ownBlock → g < B0) (hBB : B ≤ B0) (hn : n ≤ 4194304) (hN : N ≤ 4194304) :
    Calls Tryz.prog 111 #[.pointer (some ⟨wb, 9, none⟩), v] w fun e w' => e = .returned (.tuple #[]) ∧ ∃ tv' va vb vc, Kept w w' B0 wb 11 B 166 9 1 (fT N) tv tv' N xs C ⟨v, va, vb, vc⟩ n := by
  obtain ⟨i0, hi0, hz0, hz1, hz2⟩ := info_parts Tryz.info9
  obtain ⟨j0, hj0, hy0, hy1, hy2⟩ := info_parts Tryz.info166
  have hyl := hown.1
  have HOWN := hide hown
  have HC := hide hC
  have HROW := hide hrow
  have HTV := hide htv
  have c11 := (cell_of hC hct).1
  have hv : ∃ a c, v = .slice a n c ∧ n ≤ c ∧ c ≤ maxLen := by
    rcases hown.2 with ⟨rfl, rfl⟩ | ⟨g, cap, cur, rfl, _, _, h1, h2, _⟩
    · exact ⟨none, 0, rfl, Nat.le_refl _, by unfold maxLen; omega⟩
    · exact ⟨_, cap, rfl, h1, h2⟩
  have htvv : ∃ a c, tv = .slice a N c ∧ N ≤ c ∧ c ≤ maxLen := by
    rcases hrow.2 with ⟨rfl, rfl⟩ | ⟨g, cap, cur, rfl, _, _, h1, h2, _⟩
    · exact ⟨none, 0, rfl, Nat.le_refl _, by unfold maxLen; omega⟩
    · exact ⟨_, cap, rfl, h1, h2⟩
  obtain ⟨a, c, rfl, hnc, hcm⟩ := hv
  obtain ⟨ta, tc, rfl, hNc, hNm⟩ := htvv
  unfold maxLen at hcm hNm
  have HCT := hide hct
  have HCS := hide hCs
  clear hown hC hrow htv hct
  go_enter Tryz.func111, Tryz.ntmps111
  go_wp2_with (first | (go_at_call 138; refine (markText_any N _ (by omega)).mono ?_; rintro e w1 ⟨rfl, hb1⟩; have HB1 := hide hb1; clear hb1))
  have HOWN1 := hide (HOWN.out.kept (row := none) ⟨HB1.out.os, HB1.out.tape, HB1.out.output, HB1.out.size, fun k hk _ => HB1.out.block k hk⟩ (by cases (Value.slice a n c).ownBlock <;> simp))
  clear HOWN c11
  go_loopw [6] (fun i wr => ∃ k : Nat, k ≤ n ∧ i = .int .i64 k ∧ wr.ownsRow B0 9 1 (.slice a n c) n (mkTo (fT N) ys k) ∧ w1.grownBy wr (Value.slice a n c).ownBlock) (fun i _ => n - (intOf i).toNat)
  case atStart => exact ⟨0, Nat.zero_le _, rfl, by simpa [mkTo, mks] using HOWN1.out, ⟨rfl, rfl, rfl, Nat.le_refl _, fun _ _ _ => rfl⟩⟩
  case round =>
    obtain ⟨k, hk, rfl, ho, hg⟩ := hrel
    have HO := hide ho
    have HG := hide hg
    clear ho hg
    by_cases hlt : k < n
    · have hsome : ∃ g, a = some ⟨g, 0, none⟩ := by
        rcases HO.out.2 with ⟨q, q2⟩ | ⟨g, cap, cur, q, _⟩
        · omega
        · injection q with q; exact ⟨g, q⟩
      obtain ⟨g, rfl⟩ := hsome
      obtain ⟨⟨y, hcell⟩, hfr⟩ := own_at HO.out (i := k) (by omega)
      go_wp2
      go_roundw
      case rel =>
        refine ⟨k + 1, by omega, by go_num, ?_, ⟨HG.out.os, HG.out.tape, HG.out.output, by have := HG.out.size; simpa using this, fun q hq hne => ?_⟩⟩
        · have := own_store (y := .string (mT N)) HO.out (i := k) (by omega)
          rwa [show (mkTo (fT N) ys k).set k (.string (mT N)) = mkTo (fT N) ys (k + 1) from mkTo_set (f := fT N) (by rw [hyl]; omega)] at this
        · rw [set_other (fun e => hne (by simp [Value.ownBlock, e]))]
          exact HG.out.block q hq hne
      case measure => simp [intOf]; omega
    · have hke : k = n := by omega
      subst hke
      have HO2 : Hid (wr.ownsRow B0 9 1 (.slice a k c) k (mks (fT N) (k * 1))) := by
        have := HO.out
        rw [mkTo_full (by rw [hyl]; omega)] at this
        rwa [Nat.mul_one]
      have HSAME : Hid (∀ g : Nat, g < B0 → wr.heap[g]? = w.heap[g]?) := by
        intro g hg
        have hs1 := HB1.out.size
        rw [HG.out.block g (by omega) (fun q => by have := (own_block HOWN1.out q).1; omega)]
        exact HB1.out.block g (by omega)
      have hsz : w.heap.size ≤ wr.heap.size := Nat.le_trans HB1.out.size HG.out.size
      have K0 : Hid (KSt w (wr.alloc (Obj.cells #[.slice a k c, .slice none 0 0, .slice none 0 0, .slice none 0 0, .int .i64 (N : Int)] 166)) B0 wr.heap.size 166 9 1 (.slice a k c) k (fT N) #[.slice a k c, .slice none 0 0, .slice none 0 0, .slice none 0 0, .int .i64 (N : Int)] []) := by
        refine ⟨HO2.out.alloc _, ?_, by omega, fun g hg => ?_, HG.out.os.trans HB1.out.os, HG.out.tape.trans HB1.out.tape, HG.out.output.trans HB1.out.output, by simp; omega, fun p hp => by cases hp⟩
        · show (wr.heap.push _)[wr.heap.size]? = _
          rw [Array.getElem?_push, if_pos rfl]
        · rw [_root_.Go.heap_alloc_old wr _ (r := g) (by omega)]
          exact HSAME.out g hg
      clear HO HG HOWN1 HB1
      go_wp2_with (first
        | (at_builtin; refine wpList_append_keep _ rfl (.tmp 28) (.tmp 30) 58 rfl B0 9 i0 (.string ByteArray.empty) 1 16 Tryz.underlying58 hi0 hz0 hz1 hz2 rfl (by decide) _ _ _ rfl (K0.out.own.alloc _) ⟨_, 0, none⟩ 1 1 [.string (mT N)] rfl rfl (cells_new2 _ _ (by simp) _ _ _ rfl) (by intro u hu; simp at hu; subst hu; rfl) (by unfold maxLen; omega) (by omega) (by have := K0.out.size; simp at this ⊢; omega) (by omega) ?_; intro v1 W1 o1 g1 k1 r1; obtain ⟨a1, c1, rfl, _, _⟩ := own_slice o1; have K1 := hide (KSt.app (i := 1) (m := 1) K0.out (by decide) (by exact o1) g1 k1 r1 (by simp)); obtain ⟨hx1, hf1⟩ := cell_of (j := 1) (u := .slice none 0 0) (KSt.x2 K0.out (by decide) g1) rfl; clear o1 g1 k1 r1)
        | (at_builtin; refine wpList_append_keep _ rfl (.tmp 33) (.tmp 36) 58 rfl B0 9 i0 (.string ByteArray.empty) 1 16 Tryz.underlying58 hi0 hz0 hz1 hz2 rfl (by decide) _ _ _ rfl (K1.out.own.alloc _) ⟨_, 0, none⟩ 2 2 [.string (mT N), .string (mT N)] rfl rfl (cells_new2 _ _ (by simp) _ _ _ rfl) (by intro u hu; simp at hu; subst hu; rfl) (by unfold maxLen; omega) (by omega) (by have := K1.out.size; simp at this ⊢; omega) (by omega) ?_; intro v2 W2 o2 g2 k2 r2; obtain ⟨a2, c2, rfl, _, _⟩ := own_slice o2; have K2 := hide (KSt.app (i := 2) (m := 2) K1.out (by decide) (by exact o2) g2 k2 r2 (by simp)); obtain ⟨hx2, hf2⟩ := cell_of (j := 2) (u := .slice none 0 0) (KSt.x2 K1.out (by decide) g2) rfl; clear o2 g2 k2 r2)
        | (at_builtin; refine wpList_append_keep _ rfl (.tmp 39) (.tmp 43) 58 rfl B0 9 i0 (.string ByteArray.empty) 1 16 Tryz.underlying58 hi0 hz0 hz1 hz2 rfl (by decide) _ _ _ rfl (K2.out.own.alloc _) ⟨_, 0, none⟩ 3 3 [.string (mT N), .string (mT N), .string (mT N)] rfl rfl (cells_new2 _ _ (by simp) _ _ _ rfl) (by intro u hu; simp at hu; subst hu; rfl) (by unfold maxLen; omega) (by omega) (by have := K2.out.size; simp at this ⊢; omega) (by omega) ?_; intro v3 W3 o3 g3 k3 r3; obtain ⟨a3, c3, rfl, _, _⟩ := own_slice o3; have K3 := hide (KSt.app (i := 3) (m := 3) K2.out (by decide) (by exact o3) g3 k3 r3 (by simp)); obtain ⟨hx3, hf3⟩ := cell_of (j := 3) (u := .slice none 0 0) (KSt.x2 K2.out (by decide) g3) rfl; clear o3 g3 k3 r3))
      clear hx1 hf1 hx2 hf2 hx3 hf3 K0 K1 K2 HO2
      have HXX := hide K3.out.x
      have hge := K3.out.ge
      have hWsz := K3.out.size
      obtain ⟨e0, _⟩ := cell_of (j := 0) (u := .slice a k c) K3.out.x rfl
      obtain ⟨e1, _⟩ := cell_of (j := 1) (u := .slice a1 (k + 1) c1) K3.out.x rfl
      obtain ⟨e2, _⟩ := cell_of (j := 2) (u := .slice a2 (k + 2) c2) K3.out.x rfl
      obtain ⟨e3, _⟩ := cell_of (j := 3) (u := .slice a3 (k + 3) c3) K3.out.x rfl
      obtain ⟨e4, _⟩ := cell_of (j := 4) (u := .int .i64 (N : Int)) K3.out.x rfl
      have HWB := hide ((K3.out.same wb hwb).trans HC.out)
      obtain ⟨ew, ef⟩ := cell_of (j := 11) (u := .slice ta N tc) HWB.out HCT.out
      have HRW := hide (own_same HROW.out (fun g hg => K3.out.same g (HTV.out g hg)))
      have hnx : Hid (some wr.heap.size ≠ (Value.slice ta N tc).ownBlock) := fun q => by have := HTV.out _ q; omega
      have hnw : Hid (some wb ≠ (Value.slice ta N tc).ownBlock) := fun q => by
        obtain ⟨_, _, D, hD⟩ := own_block HROW.out q
        rw [HC.out] at hD
        injection hD with hD
        injection hD with _ hD _
        exact absurd hD (by decide)
      generalize W3.setCell ⟨wr.heap.size, 3, none⟩ (.slice a3 (k + 3) c3) = W at *
      generalize wr.heap.size = xb at *
      have ew2 : (W.alloc (Obj.cells #[.slice a k c, .slice a1 (k + 1) c1, .slice a2 (k + 2) c2, .slice a3 (k + 3) c3, .int .i64 (N : Int)] 166)).cell? ⟨wb, 11, none⟩ = some (.slice ta N tc) := ((below_alloc W _).cell (p := ⟨wb, 11, none⟩) (World.block_lt_of_cell? _ _ ew)).trans ew
      go_region_law (refine step_own _ rfl _ _ 84 rfl B 166 j0 (.agg #[.slice none 0 0, .slice none 0 0, .slice none 0 0, .slice none 0 0, .int .i64 0]) 5 104 Tryz.underlying84 hj0 hy0 hy1 hy2 rfl (by decide) _ _ _ rfl (by exact HRW.out.alloc _) ⟨W.heap.size, 0, none⟩ 1 1 [.slice a k c, .slice a1 (k + 1) c1, .slice a2 (k + 2) c2, .slice a3 (k + 3) c3, .int .i64 (N : Int)] rfl rfl (by exact cells_new _ _ _ _ rfl) (by intro u hu; simp at hu; rcases hu with rfl | rfl | rfl | rfl | rfl <;> rfl) (by unfold maxLen; omega) (by omega) (by simp; omega) ?_; intro tv5 W5 o5 g5; obtain ⟨a5, c5, rfl, _, _⟩ := own_slice o5; have g6 : (W.alloc (Obj.cells #[.slice a k c, .slice a1 (k + 1) c1, .slice a2 (k + 2) c2, .slice a3 (k + 3) c3, .int .i64 (N : Int)] 166)).grownBy W5 (Value.slice ta N tc).ownBlock := ⟨g5.os, g5.tape, g5.output, g5.size, g5.block⟩; have KF := hide (kept_of (off := 11) K3.out (by decide) (by decide) (by decide) hwb HC.out HRW.out o5 g6 hB0); obtain ⟨f0, _⟩ := cell_of (j := 0) (u := .slice a k c) (beside g6 HXX.out hnx.out) rfl; obtain ⟨f1, _⟩ := cell_of (j := 1) (u := .slice a1 (k + 1) c1) (beside g6 HXX.out hnx.out) rfl; obtain ⟨f2, _⟩ := cell_of (j := 2) (u := .slice a2 (k + 2) c2) (beside g6 HXX.out hnx.out) rfl; obtain ⟨f3, _⟩ := cell_of (j := 3) (u := .slice a3 (k + 3) c3) (beside g6 HXX.out hnx.out) rfl; obtain ⟨f4, _⟩ := cell_of (j := 4) (u := .int .i64 (N : Int)) (beside g6 HXX.out hnx.out) rfl; obtain ⟨fw, ff⟩ := cell_of (j := 11) (u := .slice ta N tc) (beside g6 HWB.out hnw.out) HCT.out; clear o5 g5 g6)
      all_goals (go_wp2; go_end0; exact ⟨rfl, _, _, _, _, KF.out⟩)
end Go.Proofs.YtkncboinfcnklaaGreatDoor
