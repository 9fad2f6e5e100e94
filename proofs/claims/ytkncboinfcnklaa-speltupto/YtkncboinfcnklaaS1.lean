import Derived.Test.YtkncboinfcnklaaProg
import Derived.Test.YtkncboinfcnklaaMath2
import Derived.Test.YtkncboinfcnklaaMath4
import Derived.WalkKit
import Derived.WalkSpells
import Derived.WalkLawsBesides
import Derived.Deep.RegionHeld3
import Derived.Deep.LoopGhost
import Derived.Deep.QuietTactic
import Derived.BigQuiet
import Derived.Deep.DeepFit
import Derived.Outline
namespace Go.Proofs.Ytkncboinfcnklaa.Str
open Go.RowKit Go.Deep Go.Proofs.Ytkncboinfcnklaa.Mth

abbrev eS : ByteArray → Value := Value.string

theorem ptr_pointer {α : Type} (T : BT α) : ∃ u, T.ptr = .pointer u := by
  cases T with
  | nil => exact ⟨none, rfl⟩
  | node b o a l r => exact ⟨_, rfl⟩

set_option maxHeartbeats 400000 in
theorem size_any (T : BT ByteArray) (w : World) (h : InT eS w T) :
    Calls Try.prog 34 #[T.ptr] w fun e w' => e = .returned (.int .i64 (lst T).length) ∧ w' = w := by
  cases T with
  | nil =>
    show Calls Try.prog 34 #[.pointer none] w _
    go_enter Try.func34, Try.ntmps34
    go_wp2
    go_ret
    exact ⟨rfl, rfl⟩
  | node b o a l r =>
    obtain ⟨rfl, h0, h1, h2, h3, hl, hr⟩ := h
    show Calls Try.prog 34 #[.pointer (some ⟨b, 0, none⟩)] w _
    clear h0 h2 h3 hl hr
    have e : (lst (.node b 0 a l r)).length = (lst l).length + 1 + (lst r).length := by simp [lst]; omega
    rw [e]
    clear e
    generalize (lst l).length + 1 + (lst r).length = k at *
    go_enter Try.func34, Try.ntmps34
    go_wp2
    go_ret
    exact ⟨rfl, rfl⟩

theorem hide {p : Prop} (h : p) : Hid p := h

set_option maxHeartbeats 400000 in
theorem join_core (u v : Option Addr) (m n : Nat) (x : ByteArray) (w : World) (sL : Hid (Calls Try.prog 34 #[.pointer u] w fun e w' => e = .returned (.int .i64 m) ∧ w' = w)) (sR : Hid (Calls Try.prog 34 #[.pointer v] w fun e w' => e = .returned (.int .i64 n) ∧ w' = w)) (hb : m + 1 + n ≤ 4611686018427387904) :
    Calls Try.prog 46 #[.pointer u, .string x, .pointer v] w fun e w' => e = .returned (.pointer (some ⟨w.heap.size, 0, none⟩)) ∧ w' = w.alloc (.cells #[.string x, .int .i64 (m + 1 + n : Nat), .pointer u, .pointer v] 64) := by
  go_enter Try.func46, Try.ntmps46
  go_wp2_with fail
  refine sL.out.mono ?_
  rintro e w' ⟨rfl, hw⟩
  subst hw
  go_wp2_with fail
  refine sR.out.mono ?_
  rintro e w' ⟨rfl, hw⟩
  subst hw
  go_wp2
  go_ret
  exact ⟨rfl, by rw [show ((m + 1 + n : Nat) : Int) = (m : Int) + 1 + (n : Int) by omega]⟩

theorem join_any (L R : BT ByteArray) (x : ByteArray) (w : World) (hL : InT eS w L) (hR : InT eS w R) (hb : (lst L).length + 1 + (lst R).length ≤ 4611686018427387904) :
    Calls Try.prog 46 #[L.ptr, .string x, R.ptr] w fun e w' => e = .returned (.pointer (some ⟨w.heap.size, 0, none⟩)) ∧ InT eS w' (.node w.heap.size 0 x L R) ∧ Below w.heap.size w w' := by
  have sL := size_any L w hL
  have sR := size_any R w hR
  obtain ⟨u, hu⟩ := ptr_pointer L
  obtain ⟨v, hv⟩ := ptr_pointer R
  rw [hu] at sL ⊢
  rw [hv] at sR ⊢
  refine (join_core u v _ _ x w sL sR hb).mono ?_
  rintro e w' ⟨rfl, rfl⟩
  have hB := (Below.refl w.heap.size w).alloc (Nat.le_refl _) (.cells #[.string x, .int .i64 ((lst L).length + 1 + (lst R).length : Nat), .pointer u, .pointer v] 64)
  refine ⟨rfl, ⟨rfl, ?_, ?_, ?_, ?_, InT.below hB hL, InT.below hB hR⟩, hB⟩
  · simp
  · simp
  · simp [hu]
  · simp [hv]
end Go.Proofs.Ytkncboinfcnklaa.Str
