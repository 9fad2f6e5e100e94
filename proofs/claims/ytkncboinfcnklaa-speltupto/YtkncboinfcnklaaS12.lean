import Derived.Test.YtkncboinfcnklaaS11
import Derived.Test.YtkncboinfcnklaaMath3
namespace Go.Proofs.Ytkncboinfcnklaa.Str
open Go.RowKit Go.Deep Go.Proofs.Ytkncboinfcnklaa.Mth Go.Sort

theorem sort_at (g cap : Nat) (zs : List (List UInt8)) (w : World) (hH : Holds encStr w g 0 zs.toArray) (hg : g < w.heap.size) (hsz : zs.length ≤ 1048576) :
    Calls Try.prog 30 #[.slice (some ⟨g, 0, none⟩) zs.length cap] w fun e w' => e = .returned (.tuple #[]) ∧ ∃ n os, w' = grow (putRow encStr (Sort.ahead w n) g 0 (zs.mergeSort fun x y => decide (x ≤ y)).toArray) os :=
  Any.slices_Sort_string Try.laysSortS g 0 cap zs w hH hg (by omega)

theorem comp_at (g cap : Nat) (zs : List (List UInt8)) (w : World) (hH : Holds encStr w g 0 zs.toArray) (hc : zs.length ≤ cap) (hsz : zs.length ≤ 1048576) :
    Calls Try.prog 31 #[.slice (some ⟨g, 0, none⟩) zs.length cap] w fun e w' => e = .returned (.slice (some ⟨g, 0, none⟩) (Lib.compact zs).length cap) ∧ ∃ q, w' = putRow encStr (Sort.ahead w q) g 0 (Lib.compact zs ++ List.replicate (zs.length - (Lib.compact zs).length) []).toArray :=
  Any.slices_Compact_string Try.laysCompS g 0 cap zs w hH (by omega) hc

theorem sort_none_at (p : Option Addr) (cap : Nat) (w : World) : Calls Try.prog 30 #[.slice p 0 cap] w fun e w' => e = .returned (.tuple #[]) ∧ w' = w := Any.slices_Sort_string_none Try.laysSortS p cap w
theorem comp_none_at (p : Option Addr) (cap : Nat) (w : World) : Calls Try.prog 31 #[.slice p 0 cap] w fun e w' => e = .returned (.slice p 0 cap) ∧ w' = w := Any.slices_Compact_string_empty Try.laysCompS p cap w

theorem enc_of (l : List (List UInt8)) : (l.map ofL).map eS = l.map encStr := by
  rw [List.map_map]
  rfl

set_option maxRecDepth 100000 in
set_option maxHeartbeats 1000000 in
theorem merge_core (v : Value) (l : List ByteArray) (w : World) (C : Hid (Calls Try.prog 29 #[v] w fun e w' => ∃ v', e = .returned v' ∧ Cur w w' v' l)) (hb : l.length ≤ 1048576) :
    Calls Try.prog 14 #[v] w fun e w' => ∃ v', e = .returned v' ∧ Cur w w' v' (mergedS l) := by
  go_enter Try.func14, Try.ntmps14
  go_wp2_with fail
  refine C.out.mono ?_
  rintro e w1 ⟨v1, rfl, hcur⟩
  by_cases hv : v1 = .slice none 0 0
  · subst hv
    have hl : l = [] := by
      rcases hcur.2.2 with ⟨_, h0⟩ | ⟨g, cap, cur, hv', _⟩
      · exact List.length_eq_zero_iff.1 h0
      · cases hv'
    subst hl
    have HC := hide hcur
    clear hcur
    go_wp2_with (first
      | (go_at_call 30; refine (sort_none_at _ _ _).mono ?_; rintro e w' ⟨rfl, rfl⟩)
      | (go_at_call 31; refine (comp_none_at _ _ _).mono ?_; rintro e w' ⟨rfl, rfl⟩))
    go_ret
    exact ⟨_, rfl, by simpa [mergedS, mergedL, Lib.compact, Lib.compactUpTo] using HC.out⟩
  · have hown : w1.ownsRow w.heap.size 9 1 v1 l.length ((l.map (·.data.toList)).map encStr) := by rw [Lib.map_encStr]; exact hcur.2
    have hlow := hcur.1
    have hll : (l.map (·.data.toList)).length = l.length := List.length_map ..
    have hmm : mergedS l = (Lib.compact ((l.map (·.data.toList)).mergeSort fun x y => decide (x ≤ y))).map ofL := rfl
    generalize l.map (·.data.toList) = ss at *
    obtain ⟨g, cap, rfl, hbg, hgl, hncap, hcm, _, hH⟩ := Lib.holds_of_ownsRow (enc := encStr) hown hv
    have hs := hide (sort_at g cap ss w1 hH hgl (by omega))
    have hl2 : (ss.mergeSort fun x y => decide (x ≤ y)).length = ss.length := List.length_mergeSort ss
    generalize hts : (ss.mergeSort fun x y => decide (x ≤ y)) = ts at *
    rw [hll] at hs
    have HM := hide hmm
    have HL2 : Hid (ts.length = l.length) := hl2.trans hll
    have HLL := hide hll
    have HH := hide hH
    have HOWN := hide hown
    have HLOW := hide hlow
    clear hcur hH hts hv hmm hl2 hown hll hlow
    generalize hln : l.length = n at *
    clear hln
    go_wp2_with fail
    refine hs.out.mono ?_
    rintro e w2 ⟨rfl, nn, os, rfl⟩
    have hH2 : Holds encStr (grow (putRow encStr (Sort.ahead w1 nn) g 0 ts.toArray) os) g 0 ts.toArray :=
      holds_grow encStr _ os g 0 _ (by simpa [putRow, mapBlock, Sort.ahead] using hgl) (holds_putRow encStr _ g 0 _ _ (holds_ahead encStr w1 nn g 0 _ HH.out) (by simp [HL2.out, HLL.out]))
    have hcomp := comp_at g cap ts _ hH2 (by rw [HL2.out]; exact hncap) (by rw [HL2.out]; exact hb)
    rw [HL2.out] at hcomp
    have HCOMP := hide hcomp
    clear hH2 hcomp
    go_wp2_with fail
    refine HCOMP.out.mono ?_
    rintro e w3 ⟨rfl, q, rfl⟩
    have E := srt_end (nn := nn) (q := q) (os := os) (z := ([] : List UInt8)) (ts := ts) (HL2.out.trans HLL.out.symm) HOWN.out HLOW.out (Nat.le_refl _) HLOW.out.size
    have HE := hide E
    clear E
    go_wp2
    go_ret
    exact ⟨_, rfl, by rw [HM.out]; exact ⟨HE.out.2, by rw [enc_of, List.length_map]; exact HE.out.1⟩⟩

theorem merge_any {v : Value} {Ls : List (List ByteArray)} {w : World} (h : RdL w v Ls) (hb : Ls.flatten.length ≤ 1048576) :
    Calls Try.prog 14 #[v] w fun e w' => ∃ v', e = .returned v' ∧ Cur w w' v' (mergedS Ls.flatten) :=
  merge_core v _ w (concat_any h hb) hb
end Go.Proofs.Ytkncboinfcnklaa.Str
