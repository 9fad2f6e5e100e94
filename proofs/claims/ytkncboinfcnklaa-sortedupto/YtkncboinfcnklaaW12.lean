import Derived.Test.YtkncboinfcnklaaW11
import Derived.Test.YtkncboinfcnklaaMath3
namespace Go.Proofs.Ytkncboinfcnklaa
open Go.RowKit Go.Deep Mth Go.Sort

theorem sort_at (g cap : Nat) (zs : List Int) (w : World) (hH : Holds eI w g 0 zs.toArray) (hg : g < w.heap.size) (hsz : zs.length ≤ 1048576) :
    Calls Try.prog 23 #[.slice (some ⟨g, 0, none⟩) zs.length cap] w fun e w' => e = .returned (.tuple #[]) ∧ ∃ n os, w' = grow (putRow eI (Sort.ahead w n) g 0 (zs.mergeSort fun x y => decide (x ≤ y)).toArray) os :=
  Any.slices_Sort_int Try.laysSortI g 0 cap zs w hH hg (by omega)

theorem comp_at (g cap : Nat) (zs : List Int) (w : World) (hH : Holds eI w g 0 zs.toArray) (hc : zs.length ≤ cap) (hsz : zs.length ≤ 1048576) :
    Calls Try.prog 24 #[.slice (some ⟨g, 0, none⟩) zs.length cap] w fun e w' => e = .returned (.slice (some ⟨g, 0, none⟩) (Lib.compact zs).length cap) ∧ ∃ q, w' = putRow eI (Sort.ahead w q) g 0 (Lib.compact zs ++ List.replicate (zs.length - (Lib.compact zs).length) 0).toArray :=
  Any.slices_Compact_int Try.laysCompI g 0 cap zs w hH (by omega) hc

theorem sort_none_at (p : Option Addr) (cap : Nat) (w : World) : Calls Try.prog 23 #[.slice p 0 cap] w fun e w' => e = .returned (.tuple #[]) ∧ w' = w := Any.slices_Sort_int_none Try.laysSortI p cap w
theorem comp_none_at (p : Option Addr) (cap : Nat) (w : World) : Calls Try.prog 24 #[.slice p 0 cap] w fun e w' => e = .returned (.slice p 0 cap) ∧ w' = w := Any.slices_Compact_int_empty Try.laysCompI p cap w

set_option maxRecDepth 100000 in
set_option maxHeartbeats 1000000 in
theorem merge_core (v : Value) (l : List Int) (w : World) (C : Hid (Calls Try.prog 22 #[v] w fun e w' => ∃ v', e = .returned v' ∧ Cur w w' v' l)) (hb : l.length ≤ 1048576) :
    Calls Try.prog 5 #[v] w fun e w' => ∃ v', e = .returned v' ∧ Cur w w' v' (merged l) := by
  go_enter Try.func5, Try.ntmps5
  go_wp2_with fail
  refine C.out.mono ?_
  rintro e w1 ⟨v1, rfl, hcur⟩
  by_cases hv : v1 = .slice none 0 0
  · subst hv
    have hl : l = [] := by
      rcases hcur.2.2 with ⟨_, h0⟩ | ⟨g, cap, cur, hv', _⟩
      · exact List.length_eq_zero_iff.1 h0
      · cases hv'
    subst hl
    have HC := hide hcur
    clear hcur
    go_wp2_with (first
      | (go_at_call 23; refine (sort_none_at _ _ _).mono ?_; rintro e w' ⟨rfl, rfl⟩)
      | (go_at_call 24; refine (comp_none_at _ _ _).mono ?_; rintro e w' ⟨rfl, rfl⟩))
    go_ret
    exact ⟨_, rfl, by simpa [merged, Lib.compact, Lib.compactUpTo] using HC.out⟩
  · obtain ⟨g, cap, rfl, hbg, hgl, hncap, hcm, _, hH⟩ := Lib.holds_of_ownsRow (enc := eI) hcur.2 hv
    have hs := hide (sort_at g cap l w1 hH hgl hb)
    have HC := hide hcur
    have HH := hide hH
    have hl2 : (l.mergeSort fun x y => decide (x ≤ y)).length = l.length := List.length_mergeSort l
    generalize hts : (l.mergeSort fun x y => decide (x ≤ y)) = ts at *
    have hm : merged l = Lib.compact ts := by unfold merged; rw [hts]
    have HM := hide hm
    have HL2 := hide hl2
    generalize hln : l.length = n at *
    have HLN := hide hln
    clear hcur hH hts hv hm hl2 hln
    go_wp2_with fail
    refine hs.out.mono ?_
    rintro e w2 ⟨rfl, nn, os, rfl⟩
    have hH2 : Holds eI (grow (putRow eI (Sort.ahead w1 nn) g 0 ts.toArray) os) g 0 ts.toArray :=
      holds_grow eI _ os g 0 _ (by simpa [putRow, mapBlock, Sort.ahead] using hgl) (holds_putRow eI _ g 0 _ _ (holds_ahead eI w1 nn g 0 _ HH.out) (by simp [HL2.out, HLN.out]))
    have hcomp := comp_at g cap ts _ hH2 (by rw [HL2.out]; exact hncap) (by rw [HL2.out]; exact hb)
    rw [HL2.out] at hcomp
    have HCOMP := hide hcomp
    clear hH2 hcomp
    go_wp2_with fail
    refine HCOMP.out.mono ?_
    rintro e w3 ⟨rfl, q, rfl⟩
    have own := HC.out.2
    rw [HLN.out] at own
    have E := srt_end (nn := nn) (q := q) (os := os) (z := (0 : Int)) (ts := ts) (HL2.out.trans HLN.out.symm) own HC.out.1 (Nat.le_refl _) HC.out.1.size
    clear own
    have HE := hide E
    clear E
    go_wp2
    go_ret
    exact ⟨_, rfl, by rw [HM.out]; exact ⟨HE.out.2, HE.out.1⟩⟩

theorem merge_any {v : Value} {Ls : List (List Int)} {w : World} (h : RdL w v Ls) (hb : Ls.flatten.length ≤ 1048576) :
    Calls Try.prog 5 #[v] w fun e w' => ∃ v', e = .returned v' ∧ Cur w w' v' (merged Ls.flatten) :=
  merge_core v _ w (concat_any h hb) hb
end Go.Proofs.Ytkncboinfcnklaa
