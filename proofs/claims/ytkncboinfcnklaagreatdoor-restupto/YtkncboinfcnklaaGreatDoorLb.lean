import Derived.Test.YtkncboinfcnklaaGreatDoorLa
import Derived.Deep.RegionLaw
import Derived.Lib.BufferWrite
import Derived.Laws.CopyRow
import Derived.Laws.MakeOwn
namespace Go.Proofs.YtkncboinfcnklaaGreatDoor
open Go.RowKit Go.Deep Go.Proofs.YtkncboinfcnklaaGreatDoor.Mth

theorem Tryz.info166 : (Tryz.prog.info? 166).map (fun i => (i.zero, i.size, i.bytes)) = some (some (.agg #[.slice none 0 0, .slice none 0 0, .slice none 0 0, .slice none 0 0, .int .i64 0]), 5, 104) := by kernel_rfl

/-- The marks laid over a list, one by one. -/
def mkTo (f : Nat → Value) (xs : List Value) (k : Nat) : List Value := mks f k ++ xs.drop k
theorem mkTo_set {f : Nat → Value} {xs : List Value} {k : Nat} (h : k < xs.length) : (mkTo f xs k).set k (f k) = mkTo f xs (k + 1) := by
  unfold mkTo
  rw [List.set_append_right _ _ (by rw [mks_len]; exact Nat.le_refl _), mks_len, Nat.sub_self, List.drop_eq_getElem_cons h, List.set_cons_zero]
  unfold mks
  rw [List.range_succ, List.map_append, List.append_assoc]
  rfl
theorem mkTo_full {f : Nat → Value} {xs : List Value} {k : Nat} (h : xs.length ≤ k) : mkTo f xs k = mks f k := by
  unfold mkTo
  rw [List.drop_eq_nil_of_le h, List.append_nil]

set_option maxRecDepth 100000 in
set_option maxHeartbeats 2000000 in
theorem keepTexts_any (w : World) (B0 wb B : Nat) (v tv : Value) (n N : Nat) (ys xs : List Value) (C : Array Value) (hown : w.ownsRow B0 9 1 v n ys) (hwb : wb < B0) (hB0 : B0 ≤ w.heap.size) (hC : w.heap[wb]? = some (Obj.cells C 91 (0, 0))) (hCs : C.size = 15) (hct : C[11]? = some tv)
    (hrow : w.ownsRow B 166 5 tv N xs) (htv : ∀ g, some g = tv.ownBlock → g < B0) (hBB : B ≤ B0) (hn : n ≤ 4194304) (hN : N ≤ 4194304) :
    Calls Tryz.prog 111 #[.pointer (some ⟨wb, 9, none⟩), v] w fun e w' => e = .returned (.tuple #[]) ∧ ∃ tv' va vb vc, Kept w w' B0 wb 11 B 166 9 1 (fT N) tv tv' N xs C ⟨v, va, vb, vc⟩ n := by
  obtain ⟨i0, hi0, hz0, hz1, hz2⟩ := info_parts Tryz.info9
  obtain ⟨j0, hj0, hy0, hy1, hy2⟩ := info_parts Tryz.info166
  have hyl := hown.1
  have HOWN := hide hown
  have HC := hide hC
  have HROW := hide hrow
  have HTV := hide htv
  have c11 := (cell_of hC hct).1
  have hv : ∃ a c, v = .slice a n c ∧ n ≤ c ∧ c ≤ maxLen := by
    rcases hown.2 with ⟨rfl, rfl⟩ | ⟨g, cap, cur, rfl, _, _, h1, h2, _⟩
    · exact ⟨none, 0, rfl, Nat.le_refl _, by unfold maxLen; omega⟩
    · exact ⟨_, cap, rfl, h1, h2⟩
  have htvv : ∃ a c, tv = .slice a N c ∧ N ≤ c ∧ c ≤ maxLen := by
    rcases hrow.2 with ⟨rfl, rfl⟩ | ⟨g, cap, cur, rfl, _, _, h1, h2, _⟩
    · exact ⟨none, 0, rfl, Nat.le_refl _, by unfold maxLen; omega⟩
    · exact ⟨_, cap, rfl, h1, h2⟩
  obtain ⟨a, c, rfl, hnc, hcm⟩ := hv
  obtain ⟨ta, tc, rfl, hNc, hNm⟩ := htvv
  unfold maxLen at hcm hNm
  have HCT := hide hct
  have HCS := hide hCs
  clear hown hC hrow htv hct
  go_enter Tryz.func111, Tryz.ntmps111
  go_wp2_with (first | (go_at_call 138; refine (markText_any N _ (by omega)).mono ?_; rintro e w1 ⟨rfl, hb1⟩; have HB1 := hide hb1; clear hb1))
  have HOWN1 := hide (HOWN.out.kept (row := none) ⟨HB1.out.os, HB1.out.tape, HB1.out.output, HB1.out.size, fun k hk _ => HB1.out.block k hk⟩ (by cases (Value.slice a n c).ownBlock <;> simp))
  clear HOWN c11
  go_loopw [6] (fun i wr => ∃ k : Nat, k ≤ n ∧ i = .int .i64 k ∧ wr.ownsRow B0 9 1 (.slice a n c) n (mkTo (fT N) ys k) ∧ w1.grownBy wr (Value.slice a n c).ownBlock) (fun i _ => n - (intOf i).toNat)
  case atStart => exact ⟨0, Nat.zero_le _, rfl, by simpa [mkTo, mks] using HOWN1.out, ⟨rfl, rfl, rfl, Nat.le_refl _, fun _ _ _ => rfl⟩⟩
  case round =>
    obtain ⟨k, hk, rfl, ho, hg⟩ := hrel
    have HO := hide ho
    have HG := hide hg
    clear ho hg
    by_cases hlt : k < n
    · have hsome : ∃ g, a = some ⟨g, 0, none⟩ := by
        rcases HO.out.2 with ⟨q, q2⟩ | ⟨g, cap, cur, q, _⟩
        · omega
        · injection q with q; exact ⟨g, q⟩
      obtain ⟨g, rfl⟩ := hsome
      obtain ⟨⟨y, hcell⟩, hfr⟩ := own_at HO.out (i := k) (by omega)
      go_wp2
      go_roundw
      case rel =>
        refine ⟨k + 1, by omega, by go_num, ?_, ⟨HG.out.os, HG.out.tape, HG.out.output, by have := HG.out.size; simpa using this, fun q hq hne => ?_⟩⟩
        · have := own_store (y := .string (mT N)) HO.out (i := k) (by omega)
          rwa [show (mkTo (fT N) ys k).set k (.string (mT N)) = mkTo (fT N) ys (k + 1) from mkTo_set (f := fT N) (by rw [hyl]; omega)] at this
        · rw [set_other (fun e => hne (by simp [Value.ownBlock, e]))]
          exact HG.out.block q hq hne
      case measure => simp [intOf]; omega
    · have hke : k = n := by omega
      subst hke
      have HO2 : Hid (wr.ownsRow B0 9 1 (.slice a k c) k (mks (fT N) (k * 1))) := by
        have := HO.out
        rw [mkTo_full (by rw [hyl]; omega)] at this
        rwa [Nat.mul_one]
      have HSAME : Hid (∀ g : Nat, g < B0 → wr.heap[g]? = w.heap[g]?) := by
        intro g hg
        have hs1 := HB1.out.size
        rw [HG.out.block g (by omega) (fun q => by have := (own_block HOWN1.out q).1; omega)]
        exact HB1.out.block g (by omega)
      have hsz : w.heap.size ≤ wr.heap.size := Nat.le_trans HB1.out.size HG.out.size
      have K0 : Hid (KSt w (wr.alloc (Obj.cells #[.slice a k c, .slice none 0 0, .slice none 0 0, .slice none 0 0, .int .i64 (N : Int)] 166)) B0 wr.heap.size 166 9 1 (.slice a k c) k (fT N) #[.slice a k c, .slice none 0 0, .slice none 0 0, .slice none 0 0, .int .i64 (N : Int)] []) := by
        refine ⟨HO2.out.alloc _, ?_, by omega, fun g hg => ?_, HG.out.os.trans HB1.out.os, HG.out.tape.trans HB1.out.tape, HG.out.output.trans HB1.out.output, by simp; omega, fun p hp => by cases hp⟩
        · show (wr.heap.push _)[wr.heap.size]? = _
          rw [Array.getElem?_push, if_pos rfl]
        · rw [_root_.Go.heap_alloc_old wr _ (r := g) (by omega)]
          exact HSAME.out g hg
      clear HO HG HOWN1 HB1
      go_wp2_with (first
        | (at_builtin; refine wpList_append_keep _ rfl (.tmp 28) (.tmp 30) 58 rfl B0 9 i0 (.string ByteArray.empty) 1 16 Tryz.underlying58 hi0 hz0 hz1 hz2 rfl (by decide) _ _ _ rfl (K0.out.own.alloc _) ⟨_, 0, none⟩ 1 1 [.string (mT N)] rfl rfl (cells_new2 _ _ (by simp) _ _ _ rfl) (by intro u hu; simp at hu; subst hu; rfl) (by unfold maxLen; omega) (by omega) (by have := K0.out.size; simp at this ⊢; omega) (by omega) ?_; intro v1 W1 o1 g1 k1 r1; obtain ⟨a1, c1, rfl, _, _⟩ := own_slice o1; have K1 := hide (KSt.app (i := 1) (m := 1) K0.out (by decide) (by exact o1) g1 k1 r1 (by simp)); obtain ⟨hx1, hf1⟩ := cell_of (j := 1) (u := .slice none 0 0) (KSt.x2 K0.out (by decide) g1) rfl; clear o1 g1 k1 r1)
        | (at_builtin; refine wpList_append_keep _ rfl (.tmp 33) (.tmp 36) 58 rfl B0 9 i0 (.string ByteArray.empty) 1 16 Tryz.underlying58 hi0 hz0 hz1 hz2 rfl (by decide) _ _ _ rfl (K1.out.own.alloc _) ⟨_, 0, none⟩ 2 2 [.string (mT N), .string (mT N)] rfl rfl (cells_new2 _ _ (by simp) _ _ _ rfl) (by intro u hu; simp at hu; subst hu; rfl) (by unfold maxLen; omega) (by omega) (by have := K1.out.size; simp at this ⊢; omega) (by omega) ?_; intro v2 W2 o2 g2 k2 r2; obtain ⟨a2, c2, rfl, _, _⟩ := own_slice o2; have K2 := hide (KSt.app (i := 2) (m := 2) K1.out (by decide) (by exact o2) g2 k2 r2 (by simp)); obtain ⟨hx2, hf2⟩ := cell_of (j := 2) (u := .slice none 0 0) (KSt.x2 K1.out (by decide) g2) rfl; clear o2 g2 k2 r2)
        | (at_builtin; refine wpList_append_keep _ rfl (.tmp 39) (.tmp 43) 58 rfl B0 9 i0 (.string ByteArray.empty) 1 16 Tryz.underlying58 hi0 hz0 hz1 hz2 rfl (by decide) _ _ _ rfl (K2.out.own.alloc _) ⟨_, 0, none⟩ 3 3 [.string (mT N), .string (mT N), .string (mT N)] rfl rfl (cells_new2 _ _ (by simp) _ _ _ rfl) (by intro u hu; simp at hu; subst hu; rfl) (by unfold maxLen; omega) (by omega) (by have := K2.out.size; simp at this ⊢; omega) (by omega) ?_; intro v3 W3 o3 g3 k3 r3; obtain ⟨a3, c3, rfl, _, _⟩ := own_slice o3; have K3 := hide (KSt.app (i := 3) (m := 3) K2.out (by decide) (by exact o3) g3 k3 r3 (by simp)); obtain ⟨hx3, hf3⟩ := cell_of (j := 3) (u := .slice none 0 0) (KSt.x2 K2.out (by decide) g3) rfl; clear o3 g3 k3 r3))
      clear hx1 hf1 hx2 hf2 hx3 hf3 K0 K1 K2 HO2
      have HXX := hide K3.out.x
      have hge := K3.out.ge
      have hWsz := K3.out.size
      obtain ⟨e0, _⟩ := cell_of (j := 0) (u := .slice a k c) K3.out.x rfl
      obtain ⟨e1, _⟩ := cell_of (j := 1) (u := .slice a1 (k + 1) c1) K3.out.x rfl
      obtain ⟨e2, _⟩ := cell_of (j := 2) (u := .slice a2 (k + 2) c2) K3.out.x rfl
      obtain ⟨e3, _⟩ := cell_of (j := 3) (u := .slice a3 (k + 3) c3) K3.out.x rfl
      obtain ⟨e4, _⟩ := cell_of (j := 4) (u := .int .i64 (N : Int)) K3.out.x rfl
      have HWB := hide ((K3.out.same wb hwb).trans HC.out)
      obtain ⟨ew, ef⟩ := cell_of (j := 11) (u := .slice ta N tc) HWB.out HCT.out
      have HRW := hide (own_same HROW.out (fun g hg => K3.out.same g (HTV.out g hg)))
      have hnx : Hid (some wr.heap.size ≠ (Value.slice ta N tc).ownBlock) := fun q => by have := HTV.out _ q; omega
      have hnw : Hid (some wb ≠ (Value.slice ta N tc).ownBlock) := fun q => by
        obtain ⟨_, _, D, hD⟩ := own_block HROW.out q
        rw [HC.out] at hD
        injection hD with hD
        injection hD with _ hD _
        exact absurd hD (by decide)
      generalize W3.setCell ⟨wr.heap.size, 3, none⟩ (.slice a3 (k + 3) c3) = W at *
      generalize wr.heap.size = xb at *
      have ew2 : (W.alloc (Obj.cells #[.slice a k c, .slice a1 (k + 1) c1, .slice a2 (k + 2) c2, .slice a3 (k + 3) c3, .int .i64 (N : Int)] 166)).cell? ⟨wb, 11, none⟩ = some (.slice ta N tc) := ((below_alloc W _).cell (p := ⟨wb, 11, none⟩) (World.block_lt_of_cell? _ _ ew)).trans ew
      go_region_law (refine step_own _ rfl _ _ 84 rfl B 166 j0 (.agg #[.slice none 0 0, .slice none 0 0, .slice none 0 0, .slice none 0 0, .int .i64 0]) 5 104 Tryz.underlying84 hj0 hy0 hy1 hy2 rfl (by decide) _ _ _ rfl (by exact HRW.out.alloc _) ⟨W.heap.size, 0, none⟩ 1 1 [.slice a k c, .slice a1 (k + 1) c1, .slice a2 (k + 2) c2, .slice a3 (k + 3) c3, .int .i64 (N : Int)] rfl rfl (by exact cells_new _ _ _ _ rfl) (by intro u hu; simp at hu; rcases hu with rfl | rfl | rfl | rfl | rfl <;> rfl) (by unfold maxLen; omega) (by omega) (by simp; omega) ?_; intro tv5 W5 o5 g5; obtain ⟨a5, c5, rfl, _, _⟩ := own_slice o5; have g6 : (W.alloc (Obj.cells #[.slice a k c, .slice a1 (k + 1) c1, .slice a2 (k + 2) c2, .slice a3 (k + 3) c3, .int .i64 (N : Int)] 166)).grownBy W5 (Value.slice ta N tc).ownBlock := ⟨g5.os, g5.tape, g5.output, g5.size, g5.block⟩; have KF := hide (kept_of (off := 11) K3.out (by decide) (by decide) (by decide) hwb HC.out HRW.out o5 g6 hB0); obtain ⟨f0, _⟩ := cell_of (j := 0) (u := .slice a k c) (beside g6 HXX.out hnx.out) rfl; obtain ⟨f1, _⟩ := cell_of (j := 1) (u := .slice a1 (k + 1) c1) (beside g6 HXX.out hnx.out) rfl; obtain ⟨f2, _⟩ := cell_of (j := 2) (u := .slice a2 (k + 2) c2) (beside g6 HXX.out hnx.out) rfl; obtain ⟨f3, _⟩ := cell_of (j := 3) (u := .slice a3 (k + 3) c3) (beside g6 HXX.out hnx.out) rfl; obtain ⟨f4, _⟩ := cell_of (j := 4) (u := .int .i64 (N : Int)) (beside g6 HXX.out hnx.out) rfl; obtain ⟨fw, ff⟩ := cell_of (j := 11) (u := .slice ta N tc) (beside g6 HWB.out hnw.out) HCT.out; clear o5 g5 g6)
      all_goals (go_wp2; go_end0; exact ⟨rfl, _, _, _, _, KF.out⟩)
end Go.Proofs.YtkncboinfcnklaaGreatDoor

namespace Go.Proofs.YtkncboinfcnklaaGreatDoor
open Go.RowKit Go.Deep Go.Proofs.YtkncboinfcnklaaGreatDoor.Mth

theorem Tryz.info160 : (Tryz.prog.info? 160).map (fun i => (i.zero, i.size, i.bytes)) = some (some (.agg #[.slice none 0 0, .slice none 0 0, .slice none 0 0, .slice none 0 0, .int .i64 0]), 5, 104) := by kernel_rfl

theorem KSt.app1 {w W W2 : World} {B0 xb : Nat} {T e : TypeId} {v v2 : Value} {n m : Nat} {f : Nat → Value} {X : Array Value} {us : List (Value × Nat)} {o : Obj} {i : Nat} (h : KSt w W B0 xb T e 1 v n f X us) (hT : T ≠ e)
    (h1 : W2.ownsRow B0 e 1 v2 (n + m) (mks f (n * 1) ++ (List.range m).map (fun j => f (n + j)))) (h2 : (W.alloc o).grownBy W2 v.ownBlock) (h3 : W2.ownsRow B0 e 1 v n (mks f (n * 1))) (h4 : v2.ownBlock = v.ownBlock ∨ (W.alloc o).grownBy W2 none) (hus : ∀ p ∈ us, p.2 ≤ n + m) :
    KSt w (W2.setCell ⟨xb, i, none⟩ v2) B0 xb T e 1 v n f (X.setIfInBounds i v2) ((v2, n + m) :: us) :=
  KSt.app h hT (by simpa only [Nat.mul_one] using h1) h2 h3 h4 hus

set_option maxRecDepth 100000 in
set_option maxHeartbeats 2000000 in
theorem keepBytes_any (w : World) (B0 wb B : Nat) (v tv : Value) (n N : Nat) (ys xs : List Value) (C : Array Value) (hown : w.ownsRow B0 5 1 v n ys) (hwb : wb < B0) (hB0 : B0 ≤ w.heap.size) (hC : w.heap[wb]? = some (Obj.cells C 91 (0, 0))) (hCs : C.size = 15) (hct : C[9]? = some tv)
    (hrow : w.ownsRow B 160 5 tv N xs) (htv : ∀ g, some g = tv.ownBlock → g < B0) (hBB : B ≤ B0) (hn : n ≤ 1048576) (hN : N ≤ 4194304) :
    Calls Tryz.prog 115 #[.pointer (some ⟨wb, 9, none⟩), v] w fun e w' => e = .returned (.tuple #[]) ∧ ∃ tv' va vb vc, Kept w w' B0 wb 9 B 160 5 1 (fB N) tv tv' N xs C ⟨v, va, vb, vc⟩ n := by
  obtain ⟨i0, hi0, hz0, hz1, hz2⟩ := info_parts Tryz.info5
  obtain ⟨j0, hj0, hy0, hy1, hy2⟩ := info_parts Tryz.info160
  have hyl := hown.1
  have HOWN := hide hown
  have HC := hide hC
  have HROW := hide hrow
  have HTV := hide htv
  have c9 := (cell_of hC hct).1
  have hv : ∃ a c, v = .slice a n c ∧ n ≤ c ∧ c ≤ maxLen := by
    rcases hown.2 with ⟨rfl, rfl⟩ | ⟨g, cap, cur, rfl, _, _, h1, h2, _⟩
    · exact ⟨none, 0, rfl, Nat.le_refl _, by unfold maxLen; omega⟩
    · exact ⟨_, cap, rfl, h1, h2⟩
  have htvv : ∃ a c, tv = .slice a N c ∧ N ≤ c ∧ c ≤ maxLen := by
    rcases hrow.2 with ⟨rfl, rfl⟩ | ⟨g, cap, cur, rfl, _, _, h1, h2, _⟩
    · exact ⟨none, 0, rfl, Nat.le_refl _, by unfold maxLen; omega⟩
    · exact ⟨_, cap, rfl, h1, h2⟩
  obtain ⟨a, c, rfl, hnc, hcm⟩ := hv
  obtain ⟨ta, tc, rfl, hNc, hNm⟩ := htvv
  unfold maxLen at hcm hNm
  have HCT := hide hct
  have HCS := hide hCs
  clear hown hC hrow htv hct
  go_enter Tryz.func115, Tryz.ntmps115
  go_wp2_with fail
  have HB1 := hide (Below.refl w.heap.size w)
  have HOWN1 := hide (HOWN.out.kept (row := none) ⟨HB1.out.os, HB1.out.tape, HB1.out.output, HB1.out.size, fun k hk _ => HB1.out.block k hk⟩ (by cases (Value.slice a n c).ownBlock <;> simp))
  clear HOWN c9
  go_loopw [6] (fun i wr => ∃ k : Nat, k ≤ n ∧ i = .int .i64 k ∧ wr.ownsRow B0 5 1 (.slice a n c) n (mkTo (fB N) ys k) ∧ w.grownBy wr (Value.slice a n c).ownBlock) (fun i _ => n - (intOf i).toNat)
  case atStart => exact ⟨0, Nat.zero_le _, rfl, by simpa [mkTo, mks] using HOWN1.out, ⟨rfl, rfl, rfl, Nat.le_refl _, fun _ _ _ => rfl⟩⟩
  case round =>
    obtain ⟨k, hk, rfl, ho, hg⟩ := hrel
    have HO := hide ho
    have HG := hide hg
    clear ho hg
    by_cases hlt : k < n
    · have hsome : ∃ g, a = some ⟨g, 0, none⟩ := by
        rcases HO.out.2 with ⟨q, q2⟩ | ⟨g, cap, cur, q, _⟩
        · omega
        · injection q with q; exact ⟨g, q⟩
      obtain ⟨g, rfl⟩ := hsome
      obtain ⟨⟨y, hcell⟩, hfr⟩ := own_at HO.out (i := k) (by omega)
      go_wp2_with (first | (go_at_call 137; refine (markByte_any N k _ (by omega) (by omega)).mono ?_; rintro e w' ⟨rfl, hw⟩; rw [hw]; clear hw w'))
      go_roundw
      case rel =>
        refine ⟨k + 1, by omega, by go_num, ?_, ⟨HG.out.os, HG.out.tape, HG.out.output, by have := HG.out.size; simpa using this, fun q hq hne => ?_⟩⟩
        · have := own_store (y := .int .u8 (mB N k)) HO.out (i := k) (by omega)
          rwa [show (mkTo (fB N) ys k).set k (.int .u8 (mB N k)) = mkTo (fB N) ys (k + 1) from mkTo_set (f := fB N) (by rw [hyl]; omega)] at this
        · rw [set_other (fun e => hne (by simp [Value.ownBlock, e]))]
          exact HG.out.block q hq hne
      case measure => simp [intOf]; omega
    · have hke : k = n := by omega
      subst hke
      have HO2 : Hid (wr.ownsRow B0 5 1 (.slice a k c) k (mks (fB N) (k * 1))) := by
        have := HO.out
        rw [mkTo_full (by rw [hyl]; omega)] at this
        rwa [Nat.mul_one]
      have HSAME : Hid (∀ g : Nat, g < B0 → wr.heap[g]? = w.heap[g]?) := by
        intro g hg
        have hs1 := HB1.out.size
        rw [HG.out.block g (by omega) (fun q => by have := (own_block HOWN1.out q).1; omega)]
      have hsz : w.heap.size ≤ wr.heap.size := Nat.le_trans HB1.out.size HG.out.size
      have K0 : Hid (KSt w (wr.alloc (Obj.cells #[.slice a k c, .slice none 0 0, .slice none 0 0, .slice none 0 0, .int .i64 (N : Int)] 160)) B0 wr.heap.size 160 5 1 (.slice a k c) k (fB N) #[.slice a k c, .slice none 0 0, .slice none 0 0, .slice none 0 0, .int .i64 (N : Int)] []) := by
        refine ⟨HO2.out.alloc _, ?_, by omega, fun g hg => ?_, HG.out.os.trans HB1.out.os, HG.out.tape.trans HB1.out.tape, HG.out.output.trans HB1.out.output, by simp; omega, fun p hp => by cases hp⟩
        · show (wr.heap.push _)[wr.heap.size]? = _
          rw [Array.getElem?_push, if_pos rfl]
        · rw [_root_.Go.heap_alloc_old wr _ (r := g) (by omega)]
          exact HSAME.out g hg
      clear HO HG HOWN1 HB1
      have MI : Hid (∀ (j : Nat) (i : Int), i = (j : Int) → j ≤ 4194304 → ∀ w, Calls Tryz.prog 137 #[.int .i64 (N : Int), .int .i64 i] w fun e w' => e = .returned (.int .u8 (mB N j)) ∧ w' = w) := by
        intro j i hi hj w
        subst hi
        exact markByte_any N j w hN hj
      go_wp2_with (first
        | (go_at_call 137; refine (MI.out k _ (by omega) (by omega) _).mono ?_; rintro e w' ⟨rfl, hw⟩; rw [hw]; clear hw w')
        | (go_at_call 137; refine (MI.out (k + 1) _ (by omega) (by omega) _).mono ?_; rintro e w' ⟨rfl, hw⟩; rw [hw]; clear hw w')
        | (go_at_call 137; refine (MI.out (k + 2) _ (by omega) (by omega) _).mono ?_; rintro e w' ⟨rfl, hw⟩; rw [hw]; clear hw w')
        | (at_builtin; refine wpList_append_keep _ rfl (.tmp 29) (.tmp 33) 158 rfl B0 5 i0 (.int .u8 0) 1 1 Tryz.underlying158 hi0 hz0 hz1 hz2 rfl (by decide) _ _ _ rfl (K0.out.own.alloc _) ⟨_, 0, none⟩ 1 1 [.int .u8 (mB N k)] rfl rfl (cells_new2 _ _ (by simp) _ _ _ rfl) (by intro u hu; simp at hu; subst hu; rfl) (by unfold maxLen; omega) (by omega) (by have := K0.out.size; simp at this ⊢; omega) (by omega) ?_; intro v1 W1 o1 g1 k1 r1; obtain ⟨a1, c1, rfl, _, _⟩ := own_slice o1; have K1 := hide (KSt.app1 (i := 1) (m := 1) K0.out (by decide) (by exact o1) g1 k1 r1 (by simp)); obtain ⟨hx1, hf1⟩ := cell_of (j := 1) (u := .slice none 0 0) (KSt.x2 K0.out (by decide) g1) rfl; clear o1 g1 k1 r1)
        | (at_builtin; refine wpList_append_keep _ rfl (.tmp 36) (.tmp 44) 158 rfl B0 5 i0 (.int .u8 0) 1 1 Tryz.underlying158 hi0 hz0 hz1 hz2 rfl (by decide) _ _ _ rfl (K1.out.own.alloc _) ⟨_, 0, none⟩ 2 2 [.int .u8 (mB N k), .int .u8 (mB N (k + 1))] rfl rfl (cells_new2 _ _ (by simp) _ _ _ rfl) (by intro u hu; simp at hu; rcases hu with rfl | rfl <;> rfl) (by unfold maxLen; omega) (by omega) (by have := K1.out.size; simp at this ⊢; omega) (by omega) ?_; intro v2 W2 o2 g2 k2 r2; obtain ⟨a2, c2, rfl, _, _⟩ := own_slice o2; have K2 := hide (KSt.app1 (i := 2) (m := 2) K1.out (by decide) (by exact o2) g2 k2 r2 (by simp)); obtain ⟨hx2, hf2⟩ := cell_of (j := 2) (u := .slice none 0 0) (KSt.x2 K1.out (by decide) g2) rfl; clear o2 g2 k2 r2)
        | (at_builtin; refine wpList_append_keep _ rfl (.tmp 47) (.tmp 59) 158 rfl B0 5 i0 (.int .u8 0) 1 1 Tryz.underlying158 hi0 hz0 hz1 hz2 rfl (by decide) _ _ _ rfl (K2.out.own.alloc _) ⟨_, 0, none⟩ 3 3 [.int .u8 (mB N k), .int .u8 (mB N (k + 1)), .int .u8 (mB N (k + 2))] rfl rfl (cells_new2 _ _ (by simp) _ _ _ rfl) (by intro u hu; simp at hu; rcases hu with rfl | rfl | rfl <;> rfl) (by unfold maxLen; omega) (by omega) (by have := K2.out.size; simp at this ⊢; omega) (by omega) ?_; intro v3 W3 o3 g3 k3 r3; obtain ⟨a3, c3, rfl, _, _⟩ := own_slice o3; have K3 := hide (KSt.app1 (i := 3) (m := 3) K2.out (by decide) (by exact o3) g3 k3 r3 (by simp)); obtain ⟨hx3, hf3⟩ := cell_of (j := 3) (u := .slice none 0 0) (KSt.x2 K2.out (by decide) g3) rfl; clear o3 g3 k3 r3))
      clear hx1 hf1 hx2 hf2 hx3 hf3 K0 K1 K2 HO2
      have HXX := hide K3.out.x
      have hge := K3.out.ge
      have hWsz := K3.out.size
      obtain ⟨e0, _⟩ := cell_of (j := 0) (u := .slice a k c) K3.out.x rfl
      obtain ⟨e1, _⟩ := cell_of (j := 1) (u := .slice a1 (k + 1) c1) K3.out.x rfl
      obtain ⟨e2, _⟩ := cell_of (j := 2) (u := .slice a2 (k + 2) c2) K3.out.x rfl
      obtain ⟨e3, _⟩ := cell_of (j := 3) (u := .slice a3 (k + 3) c3) K3.out.x rfl
      obtain ⟨e4, _⟩ := cell_of (j := 4) (u := .int .i64 (N : Int)) K3.out.x rfl
      have HWB := hide ((K3.out.same wb hwb).trans HC.out)
      obtain ⟨ew, ef⟩ := cell_of (j := 9) (u := .slice ta N tc) HWB.out HCT.out
      have HRW := hide (own_same HROW.out (fun g hg => K3.out.same g (HTV.out g hg)))
      have hnx : Hid (some wr.heap.size ≠ (Value.slice ta N tc).ownBlock) := fun q => by have := HTV.out _ q; omega
      have hnw : Hid (some wb ≠ (Value.slice ta N tc).ownBlock) := fun q => by
        obtain ⟨_, _, D, hD⟩ := own_block HROW.out q
        rw [HC.out] at hD
        injection hD with hD
        injection hD with _ hD _
        exact absurd hD (by decide)
      generalize W3.setCell ⟨wr.heap.size, 3, none⟩ (.slice a3 (k + 3) c3) = W at *
      generalize wr.heap.size = xb at *
      have ew2 : (W.alloc (Obj.cells #[.slice a k c, .slice a1 (k + 1) c1, .slice a2 (k + 2) c2, .slice a3 (k + 3) c3, .int .i64 (N : Int)] 160)).cell? ⟨wb, 9, none⟩ = some (.slice ta N tc) := ((below_alloc W _).cell (p := ⟨wb, 9, none⟩) (World.block_lt_of_cell? _ _ ew)).trans ew
      go_region_law (refine step_own _ rfl _ _ 82 rfl B 160 j0 (.agg #[.slice none 0 0, .slice none 0 0, .slice none 0 0, .slice none 0 0, .int .i64 0]) 5 104 Tryz.underlying82 hj0 hy0 hy1 hy2 rfl (by decide) _ _ _ rfl (by exact HRW.out.alloc _) ⟨W.heap.size, 0, none⟩ 1 1 [.slice a k c, .slice a1 (k + 1) c1, .slice a2 (k + 2) c2, .slice a3 (k + 3) c3, .int .i64 (N : Int)] rfl rfl (by exact cells_new _ _ _ _ rfl) (by intro u hu; simp at hu; rcases hu with rfl | rfl | rfl | rfl | rfl <;> rfl) (by unfold maxLen; omega) (by omega) (by simp; omega) ?_; intro tv5 W5 o5 g5; obtain ⟨a5, c5, rfl, _, _⟩ := own_slice o5; have g6 : (W.alloc (Obj.cells #[.slice a k c, .slice a1 (k + 1) c1, .slice a2 (k + 2) c2, .slice a3 (k + 3) c3, .int .i64 (N : Int)] 160)).grownBy W5 (Value.slice ta N tc).ownBlock := ⟨g5.os, g5.tape, g5.output, g5.size, g5.block⟩; have KF := hide (kept_of (off := 9) K3.out (by decide) (by decide) (by decide) hwb HC.out HRW.out o5 g6 hB0); obtain ⟨f0, _⟩ := cell_of (j := 0) (u := .slice a k c) (beside g6 HXX.out hnx.out) rfl; obtain ⟨f1, _⟩ := cell_of (j := 1) (u := .slice a1 (k + 1) c1) (beside g6 HXX.out hnx.out) rfl; obtain ⟨f2, _⟩ := cell_of (j := 2) (u := .slice a2 (k + 2) c2) (beside g6 HXX.out hnx.out) rfl; obtain ⟨f3, _⟩ := cell_of (j := 3) (u := .slice a3 (k + 3) c3) (beside g6 HXX.out hnx.out) rfl; obtain ⟨f4, _⟩ := cell_of (j := 4) (u := .int .i64 (N : Int)) (beside g6 HXX.out hnx.out) rfl; obtain ⟨fw, ff⟩ := cell_of (j := 9) (u := .slice ta N tc) (beside g6 HWB.out hnw.out) HCT.out; clear o5 g5 g6)
      all_goals (go_wp2; go_end0; exact ⟨rfl, _, _, _, _, KF.out⟩)
end Go.Proofs.YtkncboinfcnklaaGreatDoor

namespace Go.Proofs.YtkncboinfcnklaaGreatDoor
open Go.RowKit Go.Deep Go.Proofs.YtkncboinfcnklaaGreatDoor.Mth

theorem Tryz.info169 : (Tryz.prog.info? 169).map (fun i => (i.zero, i.size, i.bytes)) = some (some (.agg #[.slice none 0 0, .slice none 0 0, .slice none 0 0, .slice none 0 0, .int .i64 0]), 5, 104) := by kernel_rfl

theorem fE_shift (N n j : Nat) : fE N (n * 3 + j) = fE N j := by
  unfold fE
  rw [show (n * 3 + j) % 3 = j % 3 by omega]
/-- What an entry's mark is made of. -/
def eM (N : Nat) : List Value := [.int .i64 (-1000 - (N : Int)), .int .i64 0, .string ⟨#[]⟩]
theorem fE_news (N n : Nat) : (List.range (1 * 3)).map (fun j => fE N (n * 3 + j)) = eM N ∧ (List.range (2 * 3)).map (fun j => fE N (n * 3 + j)) = eM N ++ eM N ∧ (List.range (3 * 3)).map (fun j => fE N (n * 3 + j)) = eM N ++ eM N ++ eM N := by
  simp only [fE_shift]
  refine ⟨?_, ?_, ?_⟩
  all_goals simp [List.range_succ, fE, eM]

set_option maxRecDepth 100000 in
set_option maxHeartbeats 2000000 in
theorem keepEntries_any (w : World) (B0 wb B : Nat) (v tv : Value) (n N : Nat) (ys xs : List Value) (C : Array Value) (hown : w.ownsRow B0 66 3 v n ys) (hwb : wb < B0) (hB0 : B0 ≤ w.heap.size) (hC : w.heap[wb]? = some (Obj.cells C 91 (0, 0))) (hCs : C.size = 15) (hct : C[12]? = some tv)
    (hrow : w.ownsRow B 169 5 tv N xs) (htv : ∀ g, some g = tv.ownBlock → g < B0) (hBB : B ≤ B0) (hn : n ≤ 4194304) (hN : N ≤ 4194304) :
    Calls Tryz.prog 121 #[.pointer (some ⟨wb, 9, none⟩), v] w fun e w' => e = .returned (.tuple #[]) ∧ ∃ tv' va vb vc, Kept w w' B0 wb 12 B 169 66 3 (fE N) tv tv' N xs C ⟨v, va, vb, vc⟩ n := by
  obtain ⟨i0, hi0, hz0, hz1, hz2⟩ := info_parts Tryz.info66
  obtain ⟨j0, hj0, hy0, hy1, hy2⟩ := info_parts Tryz.info169
  have hyl := hown.1
  have HOWN := hide hown
  have HC := hide hC
  have HROW := hide hrow
  have HTV := hide htv
  have c12 := (cell_of hC hct).1
  have hv : ∃ a c, v = .slice a n c ∧ n ≤ c ∧ c ≤ maxLen := by
    rcases hown.2 with ⟨rfl, rfl⟩ | ⟨g, cap, cur, rfl, _, _, h1, h2, _⟩
    · exact ⟨none, 0, rfl, Nat.le_refl _, by unfold maxLen; omega⟩
    · exact ⟨_, cap, rfl, h1, h2⟩
  have htvv : ∃ a c, tv = .slice a N c ∧ N ≤ c ∧ c ≤ maxLen := by
    rcases hrow.2 with ⟨rfl, rfl⟩ | ⟨g, cap, cur, rfl, _, _, h1, h2, _⟩
    · exact ⟨none, 0, rfl, Nat.le_refl _, by unfold maxLen; omega⟩
    · exact ⟨_, cap, rfl, h1, h2⟩
  obtain ⟨a, c, rfl, hnc, hcm⟩ := hv
  obtain ⟨ta, tc, rfl, hNc, hNm⟩ := htvv
  unfold maxLen at hcm hNm
  have HCT := hide hct
  have HCS := hide hCs
  clear hown hC hrow htv hct
  go_enter Tryz.func121, Tryz.ntmps121
  go_wp2_with fail
  have HB1 := hide (below_alloc w (Obj.cells #[.int .i64 (-1000 - (N : Int)), .int .i64 0, .string ⟨#[]⟩] 66))
  have HM1 : Hid ((w.alloc (Obj.cells #[.int .i64 (-1000 - (N : Int)), .int .i64 0, .string ⟨#[]⟩] 66)).heap[w.heap.size]? = some (Obj.cells #[.int .i64 (-1000 - (N : Int)), .int .i64 0, .string ⟨#[]⟩] 66 (0, 0))) := by
    show (w.heap.push _)[w.heap.size]? = _
    rw [Array.getElem?_push, if_pos rfl]
  have HNM : Hid (some w.heap.size ≠ (Value.slice a n c).ownBlock) := fun q => by have := (own_block HOWN.out q).2.1; omega
  have hmB : B0 ≤ w.heap.size := hB0
  have hmlt : w.heap.size < (w.alloc (Obj.cells #[.int .i64 (-1000 - (N : Int)), .int .i64 0, .string ⟨#[]⟩] 66)).heap.size := by simp
  generalize w.alloc (Obj.cells #[.int .i64 (-1000 - (N : Int)), .int .i64 0, .string ⟨#[]⟩] 66) = w1 at *
  have HOWN1 := hide (HOWN.out.kept (row := none) ⟨HB1.out.os, HB1.out.tape, HB1.out.output, HB1.out.size, fun k hk _ => HB1.out.block k hk⟩ (by cases (Value.slice a n c).ownBlock <;> simp))
  clear HOWN c12
  go_loopw [6] (fun i wr => ∃ k : Nat, k ≤ n ∧ i = .int .i64 k ∧ wr.ownsRow B0 66 3 (.slice a n c) n (mkTo (fE N) ys (k * 3)) ∧ w1.grownBy wr (Value.slice a n c).ownBlock) (fun i _ => n - (intOf i).toNat)
  case atStart => exact ⟨0, Nat.zero_le _, rfl, by simpa [mkTo, mks] using HOWN1.out, ⟨rfl, rfl, rfl, Nat.le_refl _, fun _ _ _ => rfl⟩⟩
  case round =>
    obtain ⟨k, hk, rfl, ho, hg⟩ := hrel
    have HO := hide ho
    have HG := hide hg
    clear ho hg
    by_cases hlt : k < n
    · have hsome : ∃ g, a = some ⟨g, 0, none⟩ := by
        rcases HO.out.2 with ⟨q, q2⟩ | ⟨g, cap, cur, q, _⟩
        · omega
        · injection q with q; exact ⟨g, q⟩
      obtain ⟨g, rfl⟩ := hsome
      obtain ⟨⟨y0, hcell0⟩, hfr0⟩ := own_at HO.out (i := k * 3) (by omega)
      obtain ⟨⟨y1, hcell1⟩, hfr1⟩ := own_at HO.out (i := k * 3 + 1) (by omega)
      obtain ⟨⟨y2, hcell2⟩, hfr2⟩ := own_at HO.out (i := k * 3 + 2) (by omega)
      have HMR := hide ((HG.out.block w.heap.size (by omega) HNM.out).trans HM1.out)
      have m0 := (cell_of (j := 0) (u := .int .i64 (-1000 - (N : Int))) HMR.out rfl).1
      have m1 := (cell_of (j := 1) (u := .int .i64 0) HMR.out rfl).1
      have m2 := (cell_of (j := 2) (u := .string ⟨#[]⟩) HMR.out rfl).1
      go_wp2
      go_roundw
      case rel =>
        refine ⟨k + 1, by omega, by go_num, ?_, ⟨HG.out.os, HG.out.tape, HG.out.output, by have := HG.out.size; simpa using this, fun q hq hne => ?_⟩⟩
        · have t0 := own_store (y := fE N (k * 3)) HO.out (i := k * 3) (by omega)
          rw [mkTo_set (f := fE N) (by rw [hyl]; omega)] at t0
          have t1 := own_store (y := fE N (k * 3 + 1)) t0 (i := k * 3 + 1) (by omega)
          rw [mkTo_set (f := fE N) (by rw [hyl]; omega)] at t1
          have t2 := own_store (y := fE N (k * 3 + 2)) t1 (i := k * 3 + 2) (by omega)
          rw [mkTo_set (f := fE N) (by rw [hyl]; omega)] at t2
          rw [fE_shift N k 1, fE_shift N k 2, show fE N (k * 3) = fE N 0 from fE_shift N k 0] at t2
          rw [show (k + 1) * 3 = k * 3 + 2 + 1 by omega]
          exact t2
        · rw [set_other (fun e => hne (by simp [Value.ownBlock, e])), set_other (fun e => hne (by simp [Value.ownBlock, e])), set_other (fun e => hne (by simp [Value.ownBlock, e]))]
          exact HG.out.block q hq hne
      case measure => simp [intOf]; omega
    · have hke : k = n := by omega
      subst hke
      have HO2 : Hid (wr.ownsRow B0 66 3 (.slice a k c) k (mks (fE N) (k * 3))) := by
        have := HO.out
        rw [mkTo_full (by rw [hyl]; omega)] at this
        exact this
      have HSAME : Hid (∀ g : Nat, g < B0 → wr.heap[g]? = w.heap[g]?) := by
        intro g hg
        have hs1 := HB1.out.size
        rw [HG.out.block g (by omega) (fun q => by have := (own_block HOWN1.out q).1; omega)]
        exact HB1.out.block g (by omega)
      have hsz : w.heap.size ≤ wr.heap.size := Nat.le_trans HB1.out.size HG.out.size
      have K0 : Hid (KSt w (wr.alloc (Obj.cells #[.slice a k c, .slice none 0 0, .slice none 0 0, .slice none 0 0, .int .i64 (N : Int)] 169)) B0 wr.heap.size 169 66 3 (.slice a k c) k (fE N) #[.slice a k c, .slice none 0 0, .slice none 0 0, .slice none 0 0, .int .i64 (N : Int)] []) := by
        refine ⟨HO2.out.alloc _, ?_, by omega, fun g hg => ?_, HG.out.os.trans HB1.out.os, HG.out.tape.trans HB1.out.tape, HG.out.output.trans HB1.out.output, by simp; omega, fun p hp => by cases hp⟩
        · show (wr.heap.push _)[wr.heap.size]? = _
          rw [Array.getElem?_push, if_pos rfl]
        · rw [_root_.Go.heap_alloc_old wr _ (r := g) (by omega)]
          exact HSAME.out g hg
      have hwlt : w.heap.size < wr.heap.size := Nat.lt_of_lt_of_le hmlt HG.out.size
      have Q0 := hide ((_root_.Go.heap_alloc_old wr (Obj.cells #[.slice a k c, .slice none 0 0, .slice none 0 0, .slice none 0 0, .int .i64 (N : Int)] 169) (r := w.heap.size) hwlt).trans ((HG.out.block w.heap.size (by omega) HNM.out).trans HM1.out))
      have p0 := (cell_of (j := 0) (u := .int .i64 (-1000 - (N : Int))) Q0.out rfl).1
      have q0 := (cell_of (j := 1) (u := .int .i64 0) Q0.out rfl).1
      have s0 := (cell_of (j := 2) (u := .string ⟨#[]⟩) Q0.out rfl).1
      clear HO HG HOWN1 HB1
      go_wp2_with (first
        | (at_builtin; refine wpList_append_keep _ rfl (.tmp 29) (.tmp 31) 57 rfl B0 66 i0 (.agg #[.int .i64 0, .int .i64 0, .string ByteArray.empty]) 3 32 Tryz.underlying57 hi0 hz0 hz1 hz2 rfl (by decide) _ _ _ rfl (K0.out.own.alloc _) ⟨_, 0, none⟩ 1 1 [.int .i64 (-1000 - (N : Int)), .int .i64 0, .string ⟨#[]⟩] rfl rfl (cells_new2 _ _ (by simp) _ _ _ rfl) (by intro u hu; simp only [List.mem_cons, List.not_mem_nil, or_false] at hu; rcases hu with rfl | rfl | rfl <;> rfl) (by unfold maxLen; omega) (by omega) (by have := K0.out.size; simp at this ⊢; omega) (by omega) ?_; intro v1 W1 o1 g1 k1 r1; obtain ⟨a1, c1, rfl, _, _⟩ := own_slice o1; have K1 := hide (KSt.app (i := 1) (m := 1) K0.out (by decide) (by rw [(fE_news N k).1]; exact o1) g1 k1 r1 (by simp)); obtain ⟨hx1, hf1⟩ := cell_of (j := 1) (u := .slice none 0 0) (KSt.x2 K0.out (by decide) g1) rfl; have Q1 := hide ((set_other (w := W1) (nb := wr.heap.size) (k := w.heap.size) (o := 1) (u := .slice a1 (k + 1) c1) (by omega)).trans (beside g1 Q0.out HNM.out)); have p1 := (cell_of (j := 0) (u := .int .i64 (-1000 - (N : Int))) Q1.out rfl).1; have q1 := (cell_of (j := 1) (u := .int .i64 0) Q1.out rfl).1; have s1 := (cell_of (j := 2) (u := .string ⟨#[]⟩) Q1.out rfl).1; clear o1 g1 k1 r1)
        | (at_builtin; refine wpList_append_keep _ rfl (.tmp 34) (.tmp 37) 57 rfl B0 66 i0 (.agg #[.int .i64 0, .int .i64 0, .string ByteArray.empty]) 3 32 Tryz.underlying57 hi0 hz0 hz1 hz2 rfl (by decide) _ _ _ rfl (K1.out.own.alloc _) ⟨_, 0, none⟩ 2 2 [.int .i64 (-1000 - (N : Int)), .int .i64 0, .string ⟨#[]⟩, .int .i64 (-1000 - (N : Int)), .int .i64 0, .string ⟨#[]⟩] rfl rfl (cells_new2 _ _ (by simp) _ _ _ rfl) (by intro u hu; simp only [List.mem_cons, List.not_mem_nil, or_false] at hu; rcases hu with rfl | rfl | rfl | rfl | rfl | rfl <;> rfl) (by unfold maxLen; omega) (by omega) (by have := K1.out.size; simp at this ⊢; omega) (by omega) ?_; intro v2 W2 o2 g2 k2 r2; obtain ⟨a2, c2, rfl, _, _⟩ := own_slice o2; have K2 := hide (KSt.app (i := 2) (m := 2) K1.out (by decide) (by rw [(fE_news N k).2.1]; exact o2) g2 k2 r2 (by simp)); obtain ⟨hx2, hf2⟩ := cell_of (j := 2) (u := .slice none 0 0) (KSt.x2 K1.out (by decide) g2) rfl; have Q2 := hide ((set_other (w := W2) (nb := wr.heap.size) (k := w.heap.size) (o := 2) (u := .slice a2 (k + 2) c2) (by omega)).trans (beside g2 Q1.out HNM.out)); have p2 := (cell_of (j := 0) (u := .int .i64 (-1000 - (N : Int))) Q2.out rfl).1; have q2 := (cell_of (j := 1) (u := .int .i64 0) Q2.out rfl).1; have s2 := (cell_of (j := 2) (u := .string ⟨#[]⟩) Q2.out rfl).1; clear o2 g2 k2 r2)
        | (at_builtin; refine wpList_append_keep _ rfl (.tmp 40) (.tmp 44) 57 rfl B0 66 i0 (.agg #[.int .i64 0, .int .i64 0, .string ByteArray.empty]) 3 32 Tryz.underlying57 hi0 hz0 hz1 hz2 rfl (by decide) _ _ _ rfl (K2.out.own.alloc _) ⟨_, 0, none⟩ 3 3 [.int .i64 (-1000 - (N : Int)), .int .i64 0, .string ⟨#[]⟩, .int .i64 (-1000 - (N : Int)), .int .i64 0, .string ⟨#[]⟩, .int .i64 (-1000 - (N : Int)), .int .i64 0, .string ⟨#[]⟩] rfl rfl (cells_new2 _ _ (by simp) _ _ _ rfl) (by intro u hu; simp only [List.mem_cons, List.not_mem_nil, or_false] at hu; rcases hu with rfl | rfl | rfl | rfl | rfl | rfl | rfl | rfl | rfl <;> rfl) (by unfold maxLen; omega) (by omega) (by have := K2.out.size; simp at this ⊢; omega) (by omega) ?_; intro v3 W3 o3 g3 k3 r3; obtain ⟨a3, c3, rfl, _, _⟩ := own_slice o3; have K3 := hide (KSt.app (i := 3) (m := 3) K2.out (by decide) (by rw [(fE_news N k).2.2]; exact o3) g3 k3 r3 (by simp)); obtain ⟨hx3, hf3⟩ := cell_of (j := 3) (u := .slice none 0 0) (KSt.x2 K2.out (by decide) g3) rfl; have Q3 := hide ((set_other (w := W3) (nb := wr.heap.size) (k := w.heap.size) (o := 3) (u := .slice a3 (k + 3) c3) (by omega)).trans (beside g3 Q2.out HNM.out)); have p3 := (cell_of (j := 0) (u := .int .i64 (-1000 - (N : Int))) Q3.out rfl).1; have q3 := (cell_of (j := 1) (u := .int .i64 0) Q3.out rfl).1; have s3 := (cell_of (j := 2) (u := .string ⟨#[]⟩) Q3.out rfl).1; clear o3 g3 k3 r3))
      clear hx1 hf1 hx2 hf2 hx3 hf3 K0 K1 K2 HO2 p0 q0 s0 p1 q1 s1 p2 q2 s2 p3 q3 s3 Q0 Q1 Q2 Q3
      have HXX := hide K3.out.x
      have hge := K3.out.ge
      have hWsz := K3.out.size
      obtain ⟨e0, _⟩ := cell_of (j := 0) (u := .slice a k c) K3.out.x rfl
      obtain ⟨e1, _⟩ := cell_of (j := 1) (u := .slice a1 (k + 1) c1) K3.out.x rfl
      obtain ⟨e2, _⟩ := cell_of (j := 2) (u := .slice a2 (k + 2) c2) K3.out.x rfl
      obtain ⟨e3, _⟩ := cell_of (j := 3) (u := .slice a3 (k + 3) c3) K3.out.x rfl
      obtain ⟨e4, _⟩ := cell_of (j := 4) (u := .int .i64 (N : Int)) K3.out.x rfl
      have HWB := hide ((K3.out.same wb hwb).trans HC.out)
      obtain ⟨ew, ef⟩ := cell_of (j := 12) (u := .slice ta N tc) HWB.out HCT.out
      have HRW := hide (own_same HROW.out (fun g hg => K3.out.same g (HTV.out g hg)))
      have hnx : Hid (some wr.heap.size ≠ (Value.slice ta N tc).ownBlock) := fun q => by have := HTV.out _ q; omega
      have hnw : Hid (some wb ≠ (Value.slice ta N tc).ownBlock) := fun q => by
        obtain ⟨_, _, D, hD⟩ := own_block HROW.out q
        rw [HC.out] at hD
        injection hD with hD
        injection hD with _ hD _
        exact absurd hD (by decide)
      generalize W3.setCell ⟨wr.heap.size, 3, none⟩ (.slice a3 (k + 3) c3) = W at *
      generalize wr.heap.size = xb at *
      have ew2 : (W.alloc (Obj.cells #[.slice a k c, .slice a1 (k + 1) c1, .slice a2 (k + 2) c2, .slice a3 (k + 3) c3, .int .i64 (N : Int)] 169)).cell? ⟨wb, 12, none⟩ = some (.slice ta N tc) := ((below_alloc W _).cell (p := ⟨wb, 12, none⟩) (World.block_lt_of_cell? _ _ ew)).trans ew
      go_region_law (refine step_own _ rfl _ _ 85 rfl B 169 j0 (.agg #[.slice none 0 0, .slice none 0 0, .slice none 0 0, .slice none 0 0, .int .i64 0]) 5 104 Tryz.underlying85 hj0 hy0 hy1 hy2 rfl (by decide) _ _ _ rfl (by exact HRW.out.alloc _) ⟨W.heap.size, 0, none⟩ 1 1 [.slice a k c, .slice a1 (k + 1) c1, .slice a2 (k + 2) c2, .slice a3 (k + 3) c3, .int .i64 (N : Int)] rfl rfl (by exact cells_new _ _ _ _ rfl) (by intro u hu; simp at hu; rcases hu with rfl | rfl | rfl | rfl | rfl <;> rfl) (by unfold maxLen; omega) (by omega) (by simp; omega) ?_; intro tv5 W5 o5 g5; obtain ⟨a5, c5, rfl, _, _⟩ := own_slice o5; have g6 : (W.alloc (Obj.cells #[.slice a k c, .slice a1 (k + 1) c1, .slice a2 (k + 2) c2, .slice a3 (k + 3) c3, .int .i64 (N : Int)] 169)).grownBy W5 (Value.slice ta N tc).ownBlock := ⟨g5.os, g5.tape, g5.output, g5.size, g5.block⟩; have KF := hide (kept_of (off := 12) K3.out (by decide) (by decide) (by decide) hwb HC.out HRW.out o5 g6 hB0); obtain ⟨f0, _⟩ := cell_of (j := 0) (u := .slice a k c) (beside g6 HXX.out hnx.out) rfl; obtain ⟨f1, _⟩ := cell_of (j := 1) (u := .slice a1 (k + 1) c1) (beside g6 HXX.out hnx.out) rfl; obtain ⟨f2, _⟩ := cell_of (j := 2) (u := .slice a2 (k + 2) c2) (beside g6 HXX.out hnx.out) rfl; obtain ⟨f3, _⟩ := cell_of (j := 3) (u := .slice a3 (k + 3) c3) (beside g6 HXX.out hnx.out) rfl; obtain ⟨f4, _⟩ := cell_of (j := 4) (u := .int .i64 (N : Int)) (beside g6 HXX.out hnx.out) rfl; obtain ⟨fw, ff⟩ := cell_of (j := 12) (u := .slice ta N tc) (beside g6 HWB.out hnw.out) HCT.out; clear o5 g5 g6)
      all_goals (go_wp2; go_end0; exact ⟨rfl, _, _, _, _, KF.out⟩)
end Go.Proofs.YtkncboinfcnklaaGreatDoor

namespace Go.Proofs.YtkncboinfcnklaaGreatDoor
open Go.RowKit Go.Deep Go.Proofs.YtkncboinfcnklaaGreatDoor.Mth

set_option maxRecDepth 100000 in
set_option maxHeartbeats 1000000 in
theorem sameTexts_any {v1 v2 : Value} {l : List ByteArray} {w : World} (h1 : Rd w v1 l) (h2 : Rd w v2 l) :
    Calls Tryz.prog 110 #[v1, v2] w fun e w' => e = .returned (.bool true) ∧ Below w.heap.size w w' := by
  obtain ⟨a1, c1, rfl, hc1, hm1⟩ := rd_len h1
  obtain ⟨a2, c2, rfl, hc2, hm2⟩ := rd_len h2
  unfold maxLen at hm1 hm2
  have HA := hide h1
  have HB := hide h2
  clear h1 h2
  generalize hn : l.length = n at *
  have HN := hide hn
  clear hn
  go_enter Tryz.func110, Tryz.ntmps110
  go_wp2_with fail
  go_loopw [5] (fun i wr => ∃ k : Nat, k ≤ n ∧ i = .int .i64 k ∧ Below w.heap.size w wr) (fun i _ => n - (intOf i).toNat)
  case atStart => exact ⟨0, Nat.zero_le _, rfl, Below.refl _ _⟩
  case round =>
    obtain ⟨k, hk, rfl, hb⟩ := hrel
    by_cases hlt : k < n
    · obtain ⟨b1, o1, rfl, _, d1⟩ := rd_at (HA.out.below hb) k (by rw [HN.out]; exact hlt)
      obtain ⟨b2, o2, rfl, _, d2⟩ := rd_at (HB.out.below hb) k (by rw [HN.out]; exact hlt)
      generalize l.getD k ByteArray.empty = x at *
      have d1' := cell_regrown d1
      have d2' := cell_regrown d2
      have HBB := hide hb
      clear hb d1 d2
      go_wp2
      refine wp_region_quiet_below (by kernel_rfl) (by kernel_rfl) ?_
      repeat (go_big_quiet_step (fail))
      refine wpQuiet_nil ?_
      intro _ hw'
      obtain ⟨⟨dq, osq⟩, hw''⟩ := hw'
      subst hw''
      have HB2 := hide (HBB.out.trans ((below_regrown wr dq osq).mono HBB.out.size))
      clear d1' d2'
      generalize Sort.grow (redrawn wr dq) osq = w2 at *
      go_wp2
      go_roundw
      case rel => exact ⟨k + 1, by omega, by go_num, HB2.out⟩
      case measure => simp [intOf]; omega
    · go_wp2
      go_ret
      exact ⟨rfl, hb⟩

set_option maxRecDepth 100000 in
set_option maxHeartbeats 1000000 in
theorem sameEntries_any {v1 v2 : Value} {l : List Ent} {w : World} (h1 : RdE w v1 l) (h2 : RdE w v2 l) :
    Calls Tryz.prog 120 #[v1, v2] w fun e w' => e = .returned (.bool true) ∧ Below w.heap.size w w' := by
  obtain ⟨a1, c1, rfl, hc1, hm1⟩ := rdE_len h1
  obtain ⟨a2, c2, rfl, hc2, hm2⟩ := rdE_len h2
  unfold maxLen at hm1 hm2
  have HA := hide h1
  have HB := hide h2
  clear h1 h2
  generalize hn : l.length = n at *
  have HN := hide hn
  clear hn
  go_enter Tryz.func120, Tryz.ntmps120
  go_wp2_with fail
  go_loopw [5] (fun i wr => ∃ k : Nat, k ≤ n ∧ i = .int .i64 k ∧ Below w.heap.size w wr) (fun i _ => n - (intOf i).toNat)
  case atStart => exact ⟨0, Nat.zero_le _, rfl, Below.refl _ _⟩
  case round =>
    obtain ⟨k, hk, rfl, hb⟩ := hrel
    by_cases hlt : k < n
    · obtain ⟨b1, o1, rfl, _, d0, d1, d2⟩ := rdE_at (HA.out.below hb) k (by rw [HN.out]; exact hlt)
      obtain ⟨b2, o2, rfl, _, g0, g1, g2⟩ := rdE_at (HB.out.below hb) k (by rw [HN.out]; exact hlt)
      generalize l.getD k e0 = e at *
      obtain ⟨s, t, x⟩ := e
      simp only at d0 d1 d2 g0 g1 g2
      have d0' := cell_regrown d0
      have d1' := cell_regrown d1
      have d2' := cell_regrown d2
      have g0' := cell_regrown g0
      have g1' := cell_regrown g1
      have g2' := cell_regrown g2
      have HBB := hide hb
      clear hb d0 d1 d2 g0 g1 g2
      go_wp2
      refine wp_region_quiet_below (by kernel_rfl) (by kernel_rfl) ?_
      repeat (go_big_quiet_step (fail))
      refine wpQuiet_nil ?_
      intro _ hw'
      obtain ⟨⟨dq, osq⟩, hw''⟩ := hw'
      subst hw''
      have HB2 := hide (HBB.out.trans ((below_regrown wr dq osq).mono HBB.out.size))
      clear d0' d1' d2' g0' g1' g2'
      generalize Sort.grow (redrawn wr dq) osq = w2 at *
      go_wp2
      go_roundw
      case rel => exact ⟨k + 1, by omega, by go_num, HB2.out⟩
      case measure => simp [intOf]; omega
    · go_wp2
      go_ret
      exact ⟨rfl, hb⟩

theorem made_rep (z : Value) (n : Nat) : madeCells #[z] n = Array.replicate n z := by
  apply Array.ext
  · simp [madeCells]
  · intro i h1 h2
    simp [madeCells] at h1 ⊢
    rw [Nat.mod_one]
    rfl

theorem mkB_at (w : World) (n : Nat) (hn : n ≤ 1048580) : (Instr.makeSlice 158 (.int .i64 (n : Int)) (.int .i64 (n : Int))).run Tryz.prog w = .ok (.slice (some ⟨w.heap.size, 0, none⟩) n n) (w.alloc (.cells (Array.replicate n (Value.int .u8 0)) 5)) := by
  obtain ⟨i0, hi0, hz0, hz1, hz2⟩ := info_parts Tryz.info5
  have := run_makeSlice (P := Tryz.prog) w 158 5 i0 (.int .u8 0) Tryz.underlying158 hi0 hz0 .i64 .i64 n n (by omega) (by omega) (by rw [hz1]; omega) (by rw [hz2]; omega) (by omega)
  rw [hz1, Int.toNat_natCast, Nat.mul_one] at this
  rw [this, show (Value.int IntKind.u8 0).cells = #[Value.int .u8 0] from rfl, made_rep]

/-- A block of the caller's. -/
def Blk (w : World) (g : Nat) (e : TypeId) (cs : List Value) : Prop := w.heap[g]? = some (Obj.cells cs.toArray e (0, 0))

theorem Blk.below {w w' : World} {g : Nat} {e : TypeId} {cs : List Value} (h : Blk w g e cs) (hb : Below w.heap.size w w') : Blk w' g e cs := (hb.block g (Array.getElem?_eq_some_iff.1 h).1).trans h
theorem Blk.at {w : World} {g : Nat} {e : TypeId} {cs : List Value} (h : Blk w g e cs) {j : Nat} {u : Value} (hu : cs[j]? = some u) : w.cell? ⟨g, j, none⟩ = some u ∧ w.frozen? ⟨g, j, none⟩ = false := cell_of h (by simpa using hu)
theorem Blk.put {w : World} {g : Nat} {e : TypeId} {cs : List Value} (h : Blk w g e cs) (j : Nat) (u : Value) : Blk (w.setCell ⟨g, j, none⟩ u) g e (cs.set j u) := by
  unfold Blk at h ⊢
  simp [World.setCell, Array.getElem?_modify, h]

/-- The bytes of a text, and three more of the caller's. -/
def lent (s : ByteArray) (k : Nat) : List Value := (tb s).map eB ++ (List.replicate k (Value.int .u8 77) ++ List.replicate (3 - k) (Value.int .u8 0))
theorem lent_len (s : ByteArray) (k : Nat) (h : k ≤ 3) : (lent s k).length = s.size + 3 := by
  unfold lent
  simp only [List.length_append, List.length_map, tb_len, List.length_replicate]
  omega
theorem lent_set (s : ByteArray) (k : Nat) (h : k < 3) : (lent s k).set (s.size + k) (.int .u8 77) = lent s (k + 1) := by
  unfold lent
  rw [List.set_append_right _ _ (by rw [List.length_map, tb_len]; omega), List.length_map, tb_len, show s.size + k - s.size = k by omega]
  match k, h with
  | 0, _ => rfl
  | 1, _ => rfl
  | 2, _ => rfl

set_option maxRecDepth 100000 in
set_option maxHeartbeats 1000000 in
theorem lentBytes_any (s : ByteArray) (w : World) (hs : s.size ≤ 1048576) :
    Calls Tryz.prog 117 #[.string s] w fun e w' => e = .returned (.slice (some ⟨w.heap.size, 0, none⟩) s.size (s.size + 3)) ∧ Below w.heap.size w w' ∧ Blk w' w.heap.size 5 (lent s 3) := by
  obtain ⟨i0, hi0, hz0, hz1, hz2⟩ := info_parts Tryz.info5
  have hmk := mkB_at w (s.size + 3) (by omega)
  rw [show ((s.size + 3 : Nat) : Int) = (s.size : Int) + 3 by omega] at hmk
  have hg0 : (w.alloc (.cells (Array.replicate (s.size + 3) (Value.int .u8 0)) 5)).heap[w.heap.size]? = some (.cells (Array.replicate (s.size + 3) (Value.int .u8 0)) 5 (0, 0)) := by
    show (w.heap.push _)[w.heap.size]? = _
    rw [Array.getElem?_push, if_pos rfl]
  have hcp := Lib.run_copy_row_string (P := Tryz.prog) (w.alloc (.cells (Array.replicate (s.size + 3) (Value.int .u8 0)) 5)) 158 9 3 5 w.heap.size 0 (s.size + 3) (s.size + 3) s (Array.replicate (s.size + 3) (Value.int .u8 0)) 5 Tryz.underlying158 (by rw [hi0]; simp [hz1]) hg0 (by omega) (by simp)
  have HB0 : Hid (Below w.heap.size w ((w.alloc (.cells (Array.replicate (s.size + 3) (Value.int .u8 0)) 5)).setRow w.heap.size ((Array.replicate (s.size + 3) (Value.int .u8 0)).toList.take 0 ++ Lib.byteCells s.data.toList ++ (Array.replicate (s.size + 3) (Value.int .u8 0)).toList.drop (0 + s.size)).toArray) ∧ Blk ((w.alloc (.cells (Array.replicate (s.size + 3) (Value.int .u8 0)) 5)).setRow w.heap.size ((Array.replicate (s.size + 3) (Value.int .u8 0)).toList.take 0 ++ Lib.byteCells s.data.toList ++ (Array.replicate (s.size + 3) (Value.int .u8 0)).toList.drop (0 + s.size)).toArray) w.heap.size 5 (lent s 0)) := by
    have hb := below_alloc w (.cells (Array.replicate (s.size + 3) (Value.int .u8 0)) 5)
    refine ⟨⟨hb.os, hb.tape, hb.output, by simp, fun k hk => ?_⟩, ?_⟩
    · rw [setRow_other _ _ k _ (by omega)]
      exact hb.block k hk
    · unfold Blk
      rw [setRow_heap _ _ _ _ _ _ hg0]
      congr 3
      unfold lent Lib.byteCells tb
      simp [List.map_map]
  generalize (w.alloc (.cells (Array.replicate (s.size + 3) (Value.int .u8 0)) 5)).setRow w.heap.size ((Array.replicate (s.size + 3) (Value.int .u8 0)).toList.take 0 ++ Lib.byteCells s.data.toList ++ (Array.replicate (s.size + 3) (Value.int .u8 0)).toList.drop (0 + s.size)).toArray = W0 at *
  have HCP := hide hcp
  clear hcp hg0
  go_enter Tryz.func117, Tryz.ntmps117
  go_wp2_with fail
  rw [HCP.out]
  go_wp2_with fail
  clear hmk HCP
  go_loopw [5] (fun i wr => ∃ k : Nat, k ≤ 3 ∧ i = .int .i64 ((s.size : Int) + k) ∧ Below w.heap.size w wr ∧ Blk wr w.heap.size 5 (lent s k)) (fun i _ => s.size + 3 - (intOf i).toNat)
  case atStart => exact ⟨0, by omega, by simp, HB0.out.1, HB0.out.2⟩
  case round =>
    obtain ⟨k, hk, rfl, hb, hbl⟩ := hrel
    have HB := hide hb
    have HBL := hide hbl
    clear hb hbl
    by_cases hlt : k < 3
    · obtain ⟨hcell, hfr⟩ := HBL.out.at (j := s.size + k) (u := (lent s k)[s.size + k]'(by rw [lent_len s k hk]; omega)) (by simp)
      generalize (lent s k)[s.size + k]'(by rw [lent_len s k hk]; omega) = y at *
      go_wp2
      go_roundw
      case rel => exact ⟨k + 1, by omega, by go_num, HB.out.setCell (Nat.le_refl _) _, by have := HBL.out.put (s.size + k) (.int .u8 77); rwa [lent_set s k hlt] at this⟩
      case measure => simp [intOf]; omega
    · have hke : k = 3 := by omega
      subst hke
      go_wp2
      go_ret
      exact ⟨rfl, HB.out, HBL.out⟩
end Go.Proofs.YtkncboinfcnklaaGreatDoor
