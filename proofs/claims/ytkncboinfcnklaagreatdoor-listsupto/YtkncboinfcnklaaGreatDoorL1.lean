import Derived.Test.YtkncboinfcnklaaGreatDoorRa
import Derived.Deep.QuietTactic
import Derived.BigQuiet
namespace Go.Proofs.YtkncboinfcnklaaGreatDoor
open Go.RowKit Go.Deep Go.Proofs.YtkncboinfcnklaaGreatDoor.Mth

/-! ### what the caller writes -/
def mB (n i : Nat) : Int := if i % 2 = 0 then 1 + (n : Int) % 251 else 1 + (n : Int) / 251 % 251
def mT (n : Nat) : ByteArray := strOfNums [(n : Int) % 256, (n : Int) / 256 % 256, (n : Int) / 65536, 33]

theorem mB_bd (n i : Nat) : 0 ≤ mB n i ∧ mB n i < 256 := by unfold mB; split <;> omega

set_option maxHeartbeats 400000 in
theorem markByte_any (n i : Nat) (w : World) (hn : n ≤ 4194304) (hi : i ≤ 4194304) : Calls Tryz.prog 137 #[.int .i64 n, .int .i64 i] w fun e w' => e = .returned (.int .u8 (mB n i)) ∧ w' = w := by
  by_cases h : i % 2 = 0
  · have h1 : (i : Int) % 2 = 0 := by omega
    have hm : mB n i = 1 + (n : Int) % 251 := by unfold mB; rw [if_pos h]
    rw [hm]
    go_enter Tryz.func137, Tryz.ntmps137
    go_wp2
    go_ret
    exact ⟨by first | rfl | (congr 2; omega), rfl⟩
  · have h1 : ¬ (i : Int) % 2 = 0 := by omega
    have h2 : ((i : Int) % 2 == 0) = false := by simpa using h1
    have hm : mB n i = 1 + (n : Int) / 251 % 251 := by unfold mB; rw [if_neg h]
    rw [hm]
    go_enter Tryz.func137, Tryz.ntmps137
    go_wp2
    go_ret
    exact ⟨by first | rfl | (congr 2; omega), rfl⟩

theorem conv_four (w : World) (a b c d : Int) : (convert 158 9 (.slice (some ⟨w.heap.size, 0, none⟩) 4 4)).run Tryz.prog (w.alloc (.cells #[.int .u8 a, .int .u8 b, .int .u8 c, .int .u8 d] 5)) = .ok (.string (strOfNums [a, b, c, d])) (w.alloc (.cells #[.int .u8 a, .int .u8 b, .int .u8 c, .int .u8 d] 5)) := by
  refine run_convert_bytes_arg (P := Tryz.prog) _ 158 5 Tryz.underlying158 Tryz.underlying5 w.heap.size 0 4 4 [a, b, c, d] rfl (fun i hi => ?_) 9 Tryz.underlying9
  match i, hi with
  | 0, _ => simp
  | 1, _ => simp
  | 2, _ => simp
  | 3, _ => simp

set_option maxRecDepth 100000 in
set_option maxHeartbeats 400000 in
theorem markText_any (n : Nat) (w : World) (hn : n ≤ 4194304) : Calls Tryz.prog 138 #[.int .i64 n] w fun e w' => e = .returned (.string (mT n)) ∧ Below w.heap.size w w' := by
  have hcv := conv_four w ((n : Int) % 256) ((n : Int) / 256 % 256) ((n : Int) / 65536) 33
  have hm : Hid (mT n = strOfNums [(n : Int) % 256, (n : Int) / 256 % 256, (n : Int) / 65536, 33]) := rfl
  rw [← hm.out] at hcv
  go_enter Tryz.func138, Tryz.ntmps138
  go_wp2
  go_ret
  exact ⟨rfl, below_alloc w _⟩

set_option maxHeartbeats 400000 in
theorem num_any (n : Int) (w : World) : Calls Tryz.prog 114 #[.int .i64 n] w fun e w' => e = .returned (.int .i64 n) ∧ w' = w := by
  go_enter Tryz.func114, Tryz.ntmps114
  go_wp2
  go_ret
  exact ⟨rfl, rfl⟩

/-- A slice from a block's beginning on, whose cells are those of f. -/
def RdM (w : World) (e : TypeId) (sz : Nat) (v : Value) (n : Nat) (f : Nat → Value) : Prop :=
  ∃ (a : Option Addr) (c : Nat), v = .slice a n c ∧ n ≤ c ∧ c ≤ maxLen ∧ (n = 0 ∨ ∃ g C, a = some ⟨g, 0, none⟩ ∧ w.heap[g]? = some (Obj.cells C e (0, 0)) ∧ ∀ j, j < n * sz → w.cell? ⟨g, j, none⟩ = some (f j))

theorem RdM.keep {w w' : World} {e : TypeId} {sz : Nat} {v : Value} {n : Nat} {f : Nat → Value} (h : RdM w e sz v n f) (hk : ∀ (g : Nat) C, w.heap[g]? = some (Obj.cells C e (0, 0)) → w'.heap[g]? = w.heap[g]?) : RdM w' e sz v n f := by
  obtain ⟨a, c, rfl, h1, h2, h⟩ := h
  refine ⟨a, c, rfl, h1, h2, h.imp id ?_⟩
  rintro ⟨g, C, rfl, hg, hc⟩
  have := hk g C hg
  exact ⟨g, C, rfl, this.trans hg, fun j hj => by rw [World.cell?_of_block (w := w) (a := ⟨g, j, none⟩) this]; exact hc j hj⟩
theorem RdM.below {w w' : World} {e : TypeId} {sz : Nat} {v : Value} {n : Nat} {f : Nat → Value} (h : RdM w e sz v n f) (hb : Below w.heap.size w w') : RdM w' e sz v n f :=
  h.keep fun g _ hg => hb.block g (Array.getElem?_eq_some_iff.1 hg).1
theorem rdM_len {w : World} {e : TypeId} {sz : Nat} {v : Value} {n : Nat} {f : Nat → Value} (h : RdM w e sz v n f) : ∃ a c, v = .slice a n c ∧ n ≤ c ∧ c ≤ maxLen := by
  obtain ⟨a, c, rfl, h1, h2, _⟩ := h
  exact ⟨a, c, rfl, h1, h2⟩
theorem rdM_at {w : World} {e : TypeId} {sz : Nat} {a : Option Addr} {n c : Nat} {f : Nat → Value} (h : RdM w e sz (.slice a n c) n f) (hn : 0 < n) : ∃ g, a = some ⟨g, 0, none⟩ ∧ g < w.heap.size ∧ ∀ j, j < n * sz → w.cell? ⟨g, j, none⟩ = some (f j) := by
  obtain ⟨a', c', e', _, _, h⟩ := h
  injection e' with e1 e2 e3
  rcases h with h | ⟨g, C, e4, hg, hc⟩
  · omega
  · exact ⟨g, e1.trans e4, (Array.getElem?_eq_some_iff.1 hg).1, hc⟩
theorem rdM_own {w : World} {B : Nat} {e : TypeId} {sz : Nat} {v : Value} {n : Nat} {f : Nat → Value} (h : w.ownsRow B e sz v n ((List.range (n * sz)).map f)) : RdM w e sz v n f := by
  have hc := fun g hg => h.cells (g := g) hg
  rcases h.2 with ⟨rfl, rfl⟩ | ⟨g, cap, cur, rfl, _, hg, h1, h2, _⟩
  · exact ⟨none, 0, rfl, Nat.le_refl _, by unfold maxLen; omega, Or.inl rfl⟩
  · refine ⟨_, cap, rfl, h1, h2, Or.inr ⟨g, cur, rfl, hg, fun j hj => ?_⟩⟩
    have := hc g rfl j (f j) (by simp [hj])
    rwa [show (⟨g, 0, none⟩ : Addr).add j = ⟨g, j, none⟩ from by unfold Addr.add; split <;> simp_all] at this

/-- The marks of the n-th list of each kind, cell by cell. -/
def fB (n : Nat) (j : Nat) : Value := .int .u8 (mB n j)
def fT (n : Nat) (_ : Nat) : Value := .string (mT n)
def fE (n : Nat) (j : Nat) : Value := if j % 3 = 0 then .int .i64 (-1000 - (n : Int)) else if j % 3 = 1 then .int .i64 0 else .string ⟨#[]⟩

set_option maxRecDepth 100000 in
set_option maxHeartbeats 1000000 in
theorem areBytes_any {v : Value} {len n : Nat} {w : World} (h : RdM w 5 1 v len (fB n)) (hn : n ≤ 4194304) (hl : len ≤ 4194304) :
    Calls Tryz.prog 70 #[v, .int .i64 n] w fun e w' => e = .returned (.bool true) ∧ Below w.heap.size w w' := by
  obtain ⟨a, c, rfl, hc, hm⟩ := rdM_len h
  unfold maxLen at hm
  have HR := hide h
  clear h
  go_enter Tryz.func70, Tryz.ntmps70
  go_wp2_with fail
  go_loopw [5] (fun i wr => ∃ k : Nat, k ≤ len ∧ i = .int .i64 k ∧ Below w.heap.size w wr) (fun i _ => len - (intOf i).toNat)
  case atStart => exact ⟨0, Nat.zero_le _, rfl, Below.refl _ _⟩
  case round =>
    obtain ⟨k, hk, rfl, hb⟩ := hrel
    by_cases hlt : k < len
    · obtain ⟨g, rfl, _, hcl⟩ := rdM_at (HR.out.below hb) (by omega)
      have d1 := cell_regrown (hcl k (by omega))
      unfold fB at d1
      have CM := hide (fun d os => Calls.regrown_of (w := wr) (d := d) (os := os) ((markByte_any n k (Sort.grow (redrawn wr d) os) (by omega) (by omega)).mono fun e w' q => ⟨q.1, by rw [q.2]; exact Below.refl _ _⟩))
      generalize mB n k = x at *
      have HB := hide hb
      clear hb hcl
      go_wp2
      refine wp_region_quiet_below (by kernel_rfl) (by kernel_rfl) ?_
      repeat (go_big_quiet_step (first | (go_at_call 137; exact CM.out _ _)))
      refine wpQuiet_nil ?_
      intro _ hw'
      obtain ⟨⟨dq, osq⟩, hw''⟩ := hw'
      subst hw''
      have HB2 := hide (HB.out.trans ((below_regrown wr dq osq).mono HB.out.size))
      clear d1 CM
      generalize Sort.grow (redrawn wr dq) osq = w2 at *
      go_wp2
      go_roundw
      case rel => exact ⟨k + 1, by omega, by go_num, HB2.out⟩
      case measure => simp [intOf]; omega
    · go_wp2
      go_ret
      exact ⟨rfl, hb⟩

set_option maxRecDepth 100000 in
set_option maxHeartbeats 1000000 in
theorem areTexts_any {v : Value} {len n : Nat} {w : World} (h : RdM w 9 1 v len (fT n)) (hn : n ≤ 4194304) :
    Calls Tryz.prog 72 #[v, .int .i64 n] w fun e w' => e = .returned (.bool true) ∧ Below w.heap.size w w' := by
  obtain ⟨a, c, rfl, hc, hm⟩ := rdM_len h
  unfold maxLen at hm
  have HR := hide h
  clear h
  go_enter Tryz.func72, Tryz.ntmps72
  go_wp2_with fail
  go_loopw [5] (fun i wr => ∃ k : Nat, k ≤ len ∧ i = .int .i64 k ∧ Below w.heap.size w wr) (fun i _ => len - (intOf i).toNat)
  case atStart => exact ⟨0, Nat.zero_le _, rfl, Below.refl _ _⟩
  case round =>
    obtain ⟨k, hk, rfl, hb⟩ := hrel
    by_cases hlt : k < len
    · obtain ⟨g, rfl, _, hcl⟩ := rdM_at (HR.out.below hb) (by omega)
      have d1 := cell_regrown (hcl k (by omega))
      unfold fT at d1
      have CM := hide (fun d os => Calls.regrown_of (w := wr) (d := d) (os := os) (markText_any n (Sort.grow (redrawn wr d) os) (by omega)))
      generalize mT n = x at *
      have HB := hide hb
      clear hb hcl
      go_wp2
      refine wp_region_quiet_below (by kernel_rfl) (by kernel_rfl) ?_
      repeat (go_big_quiet_step (first | (go_at_call 138; exact CM.out _ _)))
      refine wpQuiet_nil ?_
      intro _ hw'
      obtain ⟨⟨dq, osq⟩, hw''⟩ := hw'
      subst hw''
      have HB2 := hide (HB.out.trans ((below_regrown wr dq osq).mono HB.out.size))
      clear d1 CM
      generalize Sort.grow (redrawn wr dq) osq = w2 at *
      go_wp2
      go_roundw
      case rel => exact ⟨k + 1, by omega, by go_num, HB2.out⟩
      case measure => simp [intOf]; omega
    · go_wp2
      go_ret
      exact ⟨rfl, hb⟩

set_option maxRecDepth 100000 in
set_option maxHeartbeats 1000000 in
theorem areEntries_any {v : Value} {len n : Nat} {w : World} (h : RdM w 66 3 v len (fE n)) (hn : n ≤ 4194304) :
    Calls Tryz.prog 73 #[v, .int .i64 n] w fun e w' => e = .returned (.bool true) ∧ Below w.heap.size w w' := by
  obtain ⟨a, c, rfl, hc, hm⟩ := rdM_len h
  unfold maxLen at hm
  have HR := hide h
  clear h
  go_enter Tryz.func73, Tryz.ntmps73
  go_wp2_with fail
  go_loop [5] (fun i => ∃ k : Nat, k ≤ len ∧ i = .int .i64 k) (fun i => len - (intOf i).toNat)
  case atStart => exact ⟨0, Nat.zero_le _, rfl⟩
  case round =>
    obtain ⟨k, hk, rfl⟩ := hrel
    by_cases hlt : k < len
    · obtain ⟨g, rfl, _, hcl⟩ := rdM_at HR.out (by omega)
      have d0 := hcl (k * 3) (by omega)
      have d1 := hcl (k * 3 + 1) (by omega)
      have d2 := hcl (k * 3 + 2) (by omega)
      unfold fE at d0 d1 d2
      rw [if_pos (by omega)] at d0
      rw [if_neg (by omega), if_pos (by omega)] at d1
      rw [if_neg (by omega), if_neg (by omega)] at d2
      clear hcl
      go_wp2
      go_round
      case rel => exact ⟨k + 1, by omega, by go_num⟩
      case measure => simp [intOf]; omega
    · go_wp2
      go_ret
      exact ⟨rfl, Below.refl _ _⟩
end Go.Proofs.YtkncboinfcnklaaGreatDoor
