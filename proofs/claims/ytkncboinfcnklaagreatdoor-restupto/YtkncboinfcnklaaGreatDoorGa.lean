import Derived.Test.YtkncboinfcnklaaGreatDoorWa
import Derived.Lib.QuietBelow
namespace Go.Proofs.YtkncboinfcnklaaGreatDoor
open Go.RowKit Go.Deep Go.Proofs.YtkncboinfcnklaaGreatDoor.Mth

theorem hideG {p : Prop} (h : p) : Hid p := h

theorem no_up {p : Nat → Bool} {n c : Nat} (hm : ∀ i j, i ≤ j → j < n → p i = true → p j = true) (hp : p c = false) (hc : c < n) : ∀ q, q < c + 1 → p q = false := by
  intro q hq
  cases h : p q
  · rfl
  · have := hm q c (by omega) hc h
    rw [hp] at this
    cases this

/-- What a search for the first number with p tells. -/
def Srch (w : World) (n : Nat) (p : Nat → Bool) (e : Ending) (w' : World) : Prop := ∃ k : Nat, e = .returned (.int .i64 (k : Int)) ∧ k ≤ n ∧ (∀ i, i < k → p i = false) ∧ (∀ i, k ≤ i → i < n → p i = true) ∧ ∃ m, w' = w.drewN m

set_option maxRecDepth 100000 in
set_option maxHeartbeats 1000000 in
theorem search_find1 (n : Nat) (x y : Nat) (p : Nat → Bool) (w : World) (hn : n ≤ 4194304) (hm : ∀ i j, i ≤ j → j < n → p i = true → p j = true)
    (hf : ∀ i m, i < n → Calls Tryz.prog 150 #[.int .i64 (i : Int), .pointer (some ⟨x, 0, none⟩), .pointer (some ⟨y, 0, none⟩)] (w.drewN m) fun e w' => e = .returned (.bool (p i)) ∧ ∃ m', w' = w.drewN m') :
    Calls Tryz.prog 149 #[.int .i64 (n : Int), .func (.func 150) #[] #[.pointer (some ⟨x, 0, none⟩), .pointer (some ⟨y, 0, none⟩)]] w (Srch w n p) := by
  have HM := hideG hm
  have HF := hideG hf
  clear hm hf
  go_enter Tryz.func149, Tryz.ntmps149
  go_wp2_with fail
  go_loopw [5, 6] (fun i j wr => ∃ (a b m : Nat), a ≤ b ∧ b ≤ n ∧ i = .int .i64 a ∧ j = .int .i64 b ∧ wr = w.drewN m ∧ (∀ q, q < a → p q = false) ∧ (∀ q, b ≤ q → q < n → p q = true)) (fun i j _ => (intOf j).toNat - (intOf i).toNat)
  case atStart => exact ⟨0, n, 0, Nat.zero_le _, Nat.le_refl _, rfl, rfl, rfl, fun q hq => absurd hq (Nat.not_lt_zero _), fun q h1 h2 => by omega⟩
  case round =>
    obtain ⟨a, b, m, hab, hb, rfl, rfl, rfl, h1, h2⟩ := hrel
    have H1 := hideG h1
    have H2 := hideG h2
    clear h1 h2
    by_cases hlt : a < b
    · obtain ⟨c, hc⟩ : ∃ c, c = (a + b) / 2 := ⟨_, rfl⟩
      have hc1 : ((a : Int) + (b : Int)) / 2 = (c : Int) := by omega
      have hca : a ≤ c := by omega
      have hcb : c < b := by omega
      have HC := hideG hc
      clear hc
      have CF := hideG (HF.out c m (by omega))
      cases hp : p c
      · have HP := hideG hp
        rw [hp] at CF
        clear hp
        go_wp2_with (first | (rw [hc1]; go_at_call 150; refine CF.out.mono ?_; rintro e w2 ⟨rfl, m2, rfl⟩) | (go_at_call 150; refine CF.out.mono ?_; rintro e w2 ⟨rfl, m2, rfl⟩))
        go_roundw
        case rel => exact ⟨c + 1, b, m2, by omega, hb, by go_num, rfl, rfl, no_up HM.out HP.out (by omega), H2.out⟩
        case measure => simp [intOf]; omega
      · have HP := hideG hp
        rw [hp] at CF
        clear hp
        go_wp2_with (first | (rw [hc1]; go_at_call 150; refine CF.out.mono ?_; rintro e w2 ⟨rfl, m2, rfl⟩) | (go_at_call 150; refine CF.out.mono ?_; rintro e w2 ⟨rfl, m2, rfl⟩))
        go_roundw
        case rel => exact ⟨a, c, m2, hca, by omega, rfl, by go_num, rfl, H1.out, fun q h1 h2 => HM.out c q h1 h2 HP.out⟩
        case measure => simp [intOf]; omega
    · have : a = b := by omega
      subst this
      go_wp2
      go_ret
      exact ⟨a, rfl, hb, H1.out, H2.out, m, rfl⟩

set_option maxRecDepth 100000 in
set_option maxHeartbeats 1000000 in
theorem search_find2 (n : Nat) (x y : Nat) (p : Nat → Bool) (w : World) (hn : n ≤ 4194304) (hm : ∀ i j, i ≤ j → j < n → p i = true → p j = true)
    (hf : ∀ i m, i < n → Calls Tryz.prog 151 #[.int .i64 (i : Int), .pointer (some ⟨x, 0, none⟩), .pointer (some ⟨y, 0, none⟩)] (w.drewN m) fun e w' => e = .returned (.bool (p i)) ∧ ∃ m', w' = w.drewN m') :
    Calls Tryz.prog 149 #[.int .i64 (n : Int), .func (.func 151) #[] #[.pointer (some ⟨x, 0, none⟩), .pointer (some ⟨y, 0, none⟩)]] w (Srch w n p) := by
  have HM := hideG hm
  have HF := hideG hf
  clear hm hf
  go_enter Tryz.func149, Tryz.ntmps149
  go_wp2_with fail
  go_loopw [5, 6] (fun i j wr => ∃ (a b m : Nat), a ≤ b ∧ b ≤ n ∧ i = .int .i64 a ∧ j = .int .i64 b ∧ wr = w.drewN m ∧ (∀ q, q < a → p q = false) ∧ (∀ q, b ≤ q → q < n → p q = true)) (fun i j _ => (intOf j).toNat - (intOf i).toNat)
  case atStart => exact ⟨0, n, 0, Nat.zero_le _, Nat.le_refl _, rfl, rfl, rfl, fun q hq => absurd hq (Nat.not_lt_zero _), fun q h1 h2 => by omega⟩
  case round =>
    obtain ⟨a, b, m, hab, hb, rfl, rfl, rfl, h1, h2⟩ := hrel
    have H1 := hideG h1
    have H2 := hideG h2
    clear h1 h2
    by_cases hlt : a < b
    · obtain ⟨c, hc⟩ : ∃ c, c = (a + b) / 2 := ⟨_, rfl⟩
      have hc1 : ((a : Int) + (b : Int)) / 2 = (c : Int) := by omega
      have hca : a ≤ c := by omega
      have hcb : c < b := by omega
      have HC := hideG hc
      clear hc
      have CF := hideG (HF.out c m (by omega))
      cases hp : p c
      · have HP := hideG hp
        rw [hp] at CF
        clear hp
        go_wp2_with (first | (rw [hc1]; go_at_call 151; refine CF.out.mono ?_; rintro e w2 ⟨rfl, m2, rfl⟩) | (go_at_call 151; refine CF.out.mono ?_; rintro e w2 ⟨rfl, m2, rfl⟩))
        go_roundw
        case rel => exact ⟨c + 1, b, m2, by omega, hb, by go_num, rfl, rfl, no_up HM.out HP.out (by omega), H2.out⟩
        case measure => simp [intOf]; omega
      · have HP := hideG hp
        rw [hp] at CF
        clear hp
        go_wp2_with (first | (rw [hc1]; go_at_call 151; refine CF.out.mono ?_; rintro e w2 ⟨rfl, m2, rfl⟩) | (go_at_call 151; refine CF.out.mono ?_; rintro e w2 ⟨rfl, m2, rfl⟩))
        go_roundw
        case rel => exact ⟨a, c, m2, hca, by omega, rfl, by go_num, rfl, H1.out, fun q h1 h2 => HM.out c q h1 h2 HP.out⟩
        case measure => simp [intOf]; omega
    · have : a = b := by omega
      subst this
      go_wp2
      go_ret
      exact ⟨a, rfl, hb, H1.out, H2.out, m, rfl⟩

set_option maxRecDepth 100000 in
set_option maxHeartbeats 1000000 in
theorem search_follow (n : Nat) (x y z : Nat) (p : Nat → Bool) (w : World) (hn : n ≤ 4194304) (hm : ∀ i j, i ≤ j → j < n → p i = true → p j = true)
    (hf : ∀ i m, i < n → Calls Tryz.prog 220 #[.int .i64 (i : Int), .pointer (some ⟨x, 0, none⟩), .pointer (some ⟨y, 0, none⟩), .pointer (some ⟨z, 0, none⟩)] (w.drewN m) fun e w' => e = .returned (.bool (p i)) ∧ ∃ m', w' = w.drewN m') :
    Calls Tryz.prog 149 #[.int .i64 (n : Int), .func (.func 220) #[] #[.pointer (some ⟨x, 0, none⟩), .pointer (some ⟨y, 0, none⟩), .pointer (some ⟨z, 0, none⟩)]] w (Srch w n p) := by
  have HM := hideG hm
  have HF := hideG hf
  clear hm hf
  go_enter Tryz.func149, Tryz.ntmps149
  go_wp2_with fail
  go_loopw [5, 6] (fun i j wr => ∃ (a b m : Nat), a ≤ b ∧ b ≤ n ∧ i = .int .i64 a ∧ j = .int .i64 b ∧ wr = w.drewN m ∧ (∀ q, q < a → p q = false) ∧ (∀ q, b ≤ q → q < n → p q = true)) (fun i j _ => (intOf j).toNat - (intOf i).toNat)
  case atStart => exact ⟨0, n, 0, Nat.zero_le _, Nat.le_refl _, rfl, rfl, rfl, fun q hq => absurd hq (Nat.not_lt_zero _), fun q h1 h2 => by omega⟩
  case round =>
    obtain ⟨a, b, m, hab, hb, rfl, rfl, rfl, h1, h2⟩ := hrel
    have H1 := hideG h1
    have H2 := hideG h2
    clear h1 h2
    by_cases hlt : a < b
    · obtain ⟨c, hc⟩ : ∃ c, c = (a + b) / 2 := ⟨_, rfl⟩
      have hc1 : ((a : Int) + (b : Int)) / 2 = (c : Int) := by omega
      have hca : a ≤ c := by omega
      have hcb : c < b := by omega
      have HC := hideG hc
      clear hc
      have CF := hideG (HF.out c m (by omega))
      cases hp : p c
      · have HP := hideG hp
        rw [hp] at CF
        clear hp
        go_wp2_with (first | (rw [hc1]; go_at_call 220; refine CF.out.mono ?_; rintro e w2 ⟨rfl, m2, rfl⟩) | (go_at_call 220; refine CF.out.mono ?_; rintro e w2 ⟨rfl, m2, rfl⟩))
        go_roundw
        case rel => exact ⟨c + 1, b, m2, by omega, hb, by go_num, rfl, rfl, no_up HM.out HP.out (by omega), H2.out⟩
        case measure => simp [intOf]; omega
      · have HP := hideG hp
        rw [hp] at CF
        clear hp
        go_wp2_with (first | (rw [hc1]; go_at_call 220; refine CF.out.mono ?_; rintro e w2 ⟨rfl, m2, rfl⟩) | (go_at_call 220; refine CF.out.mono ?_; rintro e w2 ⟨rfl, m2, rfl⟩))
        go_roundw
        case rel => exact ⟨a, c, m2, hca, by omega, rfl, by go_num, rfl, H1.out, fun q h1 h2 => HM.out c q h1 h2 HP.out⟩
        case measure => simp [intOf]; omega
    · have : a = b := by omega
      subst this
      go_wp2
      go_ret
      exact ⟨a, rfl, hb, H1.out, H2.out, m, rfl⟩
end Go.Proofs.YtkncboinfcnklaaGreatDoor

namespace Go.Proofs.YtkncboinfcnklaaGreatDoor
open Go.RowKit Go.Deep Go.Proofs.YtkncboinfcnklaaGreatDoor.Mth

/-! ### tasks: slices.Index, slices.Contains, a worker's has -/
abbrev tkV (x : Nat) : Value := .agg #[.int .i64 (x : Int), .int .i64 ((x : Int) + 1)]
/-- A slice whose elements read as the tasks of these levels. -/
def RdTk (w : World) (v : Value) (l : List Nat) : Prop :=
  ∃ (a : Option Addr) (c : Nat), v = .slice a l.length c ∧ l.length ≤ c ∧ c ≤ maxLen ∧ (l = [] ∨ ∃ b, a = some ⟨b, 0, none⟩ ∧ ∀ j, j < l.length → w.cell? ⟨b, j * 2, none⟩ = some (.int .i64 ((l.getD j 0 : Nat) : Int)) ∧ w.cell? ⟨b, j * 2 + 1, none⟩ = some (.int .i64 (((l.getD j 0 : Nat) : Int) + 1)))
theorem RdTk.below {w w' : World} {v : Value} {l : List Nat} (h : RdTk w v l) (hb : Below w.heap.size w w') : RdTk w' v l := by
  obtain ⟨a, c, rfl, hc, hm, h⟩ := h
  refine ⟨a, c, rfl, hc, hm, ?_⟩
  rcases h with h | ⟨b, rfl, h⟩
  · exact Or.inl h
  · refine Or.inr ⟨b, rfl, fun j hj => ?_⟩
    obtain ⟨h1, h2⟩ := h j hj
    exact ⟨(hb.cell (p := ⟨b, j * 2, none⟩) (World.block_lt_of_cell? _ _ h1)).trans h1, (hb.cell (p := ⟨b, j * 2 + 1, none⟩) (World.block_lt_of_cell? _ _ h2)).trans h2⟩

theorem below_allocG (w : World) (o : Obj) : Below w.heap.size w (w.alloc o) := (Below.refl w.heap.size w).alloc (Nat.le_refl _) o
theorem drewG (w : World) (n : Nat) : Below w.heap.size w (w.drewN n) := ⟨rfl, rfl, rfl, Nat.le_refl _, fun _ _ => rfl⟩

theorem getDmem {α : Type} {l : List α} {k : Nat} {z : α} (h : k < l.length) : l.getD k z ∈ l := by
  simp [List.getD, h]

set_option maxRecDepth 100000 in
set_option maxHeartbeats 1000000 in
theorem tkIndex_any {v : Value} {l : List Nat} {w : World} (h : RdTk w v l) (x : Nat) (_hx : x ≤ 100) (hl : ∀ y ∈ l, y ≤ 100) :
    Calls Tryz.prog 259 #[v, tkV x] w fun e w' => ∃ r : Int, e = .returned (.int .i64 r) ∧ decide (0 ≤ r) = decide (x ∈ l) ∧ Below w.heap.size w w' := by
  obtain ⟨a, c, rfl, hc, hm, h⟩ := h
  unfold maxLen at hm
  have HB0 := hideG (below_allocG w (Obj.cells #[.int .i64 (x : Int), .int .i64 ((x : Int) + 1)] 137))
  have HH := hideG h
  have HL := hideG hl
  clear h hl
  have k0 : (w.alloc (Obj.cells #[.int .i64 (x : Int), .int .i64 ((x : Int) + 1)] 137)).cell? ⟨w.heap.size, 0, none⟩ = some (.int .i64 (x : Int)) := by simp
  have k1 : (w.alloc (Obj.cells #[.int .i64 (x : Int), .int .i64 ((x : Int) + 1)] 137)).cell? ⟨w.heap.size, 1, none⟩ = some (.int .i64 ((x : Int) + 1)) := by simp
  generalize hn : l.length = n at *
  have HN := hideG hn
  clear hn
  go_enter Tryz.func259, Tryz.ntmps259
  go_wp2_with fail
  generalize w.alloc (Obj.cells #[.int .i64 (x : Int), .int .i64 ((x : Int) + 1)] 137) = w1 at *
  go_loopw [8] (fun i wr => ∃ k : Nat, k ≤ n ∧ i = .int .i64 k ∧ Below w1.heap.size w1 wr ∧ ∀ j, j < k → l.getD j 0 ≠ x) (fun i _ => n - (intOf i).toNat)
  case atStart => exact ⟨0, Nat.zero_le _, rfl, Below.refl _ _, fun j hj => absurd hj (Nat.not_lt_zero _)⟩
  case round =>
    obtain ⟨k, hk, rfl, hb, hno⟩ := hrel
    have HBW := hideG hb
    have HNO := hideG hno
    have q0 : wr.cell? ⟨w.heap.size, 0, none⟩ = some (.int .i64 (x : Int)) := (hb.cell (p := ⟨w.heap.size, 0, none⟩) (World.block_lt_of_cell? _ _ k0)).trans k0
    have q1 : wr.cell? ⟨w.heap.size, 1, none⟩ = some (.int .i64 ((x : Int) + 1)) := (hb.cell (p := ⟨w.heap.size, 1, none⟩) (World.block_lt_of_cell? _ _ k1)).trans k1
    clear hb hno k0 k1
    by_cases hlt : k < n
    · rcases HH.out with h | ⟨b, rfl, h⟩
      · have := HN.out; rw [h] at this; simp at this; omega
      obtain ⟨h1, h2⟩ := h k hlt
      have d1 : wr.cell? ⟨b, k * 2, none⟩ = some (.int .i64 ((l.getD k 0 : Nat) : Int)) := by
        have e := (HB0.out.cell (p := ⟨b, k * 2, none⟩) (World.block_lt_of_cell? _ _ h1)).trans h1
        exact (HBW.out.cell (p := ⟨b, k * 2, none⟩) (World.block_lt_of_cell? _ _ e)).trans e
      have d2 : wr.cell? ⟨b, k * 2 + 1, none⟩ = some (.int .i64 (((l.getD k 0 : Nat) : Int) + 1)) := by
        have e := (HB0.out.cell (p := ⟨b, k * 2 + 1, none⟩) (World.block_lt_of_cell? _ _ h2)).trans h2
        exact (HBW.out.cell (p := ⟨b, k * 2 + 1, none⟩) (World.block_lt_of_cell? _ _ e)).trans e
      clear h h1 h2
      obtain ⟨y, hy⟩ : ∃ y, y = l.getD k 0 := ⟨_, rfl⟩
      rw [← hy] at d1 d2
      have HY := hideG hy
      clear hy
      by_cases hxy : x = y
      · subst hxy
        go_wp2
        go_quiet (fail)
        go_wp2
        go_ret
        exact ⟨k, rfl, by
          have hm : x ∈ l := by rw [HY.out]; exact getDmem (by rw [HN.out]; exact hlt)
          rw [decide_eq_true hm]; exact decide_eq_true (by omega), HB0.out.trans (((HBW.out.trans ((drewG wr _).mono HBW.out.size))).mono HB0.out.size)⟩
      · have q2 : ((x : Int) == (y : Int)) = false := by simp; omega
        go_wp2
        go_quiet (fail)
        go_wp2
        go_roundw
        case rel => exact ⟨k + 1, by omega, by go_num, HBW.out.trans ((drewG wr _).mono HBW.out.size), fun j hj => by
          by_cases c : j = k
          · subst c; rw [← HY.out]; exact fun q => hxy q.symm
          · exact HNO.out j (by omega)⟩
        case measure => simp [intOf]; omega
    · go_wp2
      go_ret
      exact ⟨-1, rfl, by
        have hm : ¬ x ∈ l := fun q => by
          obtain ⟨j, hj, e⟩ := List.mem_iff_getElem.1 q
          exact HNO.out j (by rw [HN.out] at hj; omega) (by simp [List.getD, hj, e])
        rw [decide_eq_false hm]; rfl, HB0.out.trans (HBW.out.mono HB0.out.size)⟩

set_option maxHeartbeats 1000000 in
theorem tkContains_any {v : Value} {l : List Nat} {w : World} (h : RdTk w v l) (x : Nat) (hx : x ≤ 100) (hl : ∀ y ∈ l, y ≤ 100) :
    Calls Tryz.prog 223 #[v, tkV x] w fun e w' => e = .returned (.bool (decide (x ∈ l))) ∧ Below w.heap.size w w' := by
  have HB0 := hideG (below_allocG w (Obj.cells #[.int .i64 (x : Int), .int .i64 ((x : Int) + 1)] 137))
  have CI := hideG (tkIndex_any (h.below HB0.out) x hx hl)
  obtain ⟨a, c, rfl, hc, hm, h⟩ := h
  clear h
  generalize decide (x ∈ l) = bb at *
  go_enter Tryz.func223, Tryz.ntmps223
  go_wp2_with (first | (go_at_call 259; refine CI.out.mono ?_; rintro e w2 ⟨r, rfl, hr, hb⟩; have HR := hideG hr; have HB2 := hideG hb; clear hr hb))
  go_ret
  exact ⟨by rw [← HR.out]; rfl, HB0.out.trans (HB2.out.mono HB0.out.size)⟩
end Go.Proofs.YtkncboinfcnklaaGreatDoor

namespace Go.Proofs.YtkncboinfcnklaaGreatDoor
open Go.RowKit Go.Deep Go.Proofs.YtkncboinfcnklaaGreatDoor.Mth

/-- A worker: the levels of the tasks in its list; the one that it runs; how many segments it has read. -/
structure Wk where
  list : List Nat
  runs : Option Nat
  read : Nat
def rf : Option Nat → Int
  | none => 0
  | some i => i
def ri : Option Nat → Int
  | none => 0
  | some i => (i : Int) + 1
def nxV (b : Nat) : Option Nat → Value
  | none => .func (.func 215) #[.pointer (some ⟨b, 0, none⟩)] #[]
  | some _ => .func (.func 258) #[.pointer (some ⟨b, 0, none⟩)] #[]
def wkC (lb b : Nat) (k : Wk) (lv : Value) : Array Value := #[.pointer (some ⟨lb, 0, none⟩), lv, .int .i64 (rf k.runs), .int .i64 (ri k.runs), .int .i64 (k.read : Int), nxV b k.runs]
/-- A worker's block reads so. -/
def WkRd (w : World) (lb b : Nat) (k : Wk) : Prop := ∃ lv, w.heap[b]? = some (Obj.cells (wkC lb b k lv) 139 (0, 0)) ∧ RdTk w lv k.list
theorem WkRd.below {w w' : World} {lb b : Nat} {k : Wk} (h : WkRd w lb b k) (hb : Below w.heap.size w w') : WkRd w' lb b k := by
  obtain ⟨lv, h1, h2⟩ := h
  exact ⟨lv, (hb.block b (Array.getElem?_eq_some_iff.1 h1).1).trans h1, h2.below hb⟩
theorem cellG {w : World} {b : Nat} {C : Array Value} {t : TypeId} {j : Nat} {u : Value} (h : w.heap[b]? = some (Obj.cells C t (0, 0))) (hu : C[j]? = some u) : w.cell? ⟨b, j, none⟩ = some u ∧ w.frozen? ⟨b, j, none⟩ = false := by
  constructor
  · simp [World.cell?, h, hu]
  · simp [World.frozen?, h]

theorem eql_task (w : World) (a b c d : Int) : (binOp .eql 137 (.agg #[.int .i64 a, .int .i64 b]) (.agg #[.int .i64 c, .int .i64 d])).run Tryz.prog w = .ok (.bool ((a == c) && (b == d))) w := by
  simp [go_sem]
  by_cases h1 : a = c <;> by_cases h2 : b = d <;> simp [h1, h2]

def tkIn (k : Wk) (x : Nat) : Bool := decide (k.runs = some x) || decide (x ∈ k.list)
/-- Small levels. -/
def WkOk (k : Wk) : Prop := (∀ y ∈ k.list, y ≤ 4) ∧ (∀ y, k.runs = some y → y ≤ 4)

set_option maxRecDepth 100000 in
set_option maxHeartbeats 1000000 in
theorem wkHas_any {w : World} {lb b : Nat} {k : Wk} (h : WkRd w lb b k) (hk : WkOk k) (x : Nat) (hx : x ≤ 100) :
    Calls Tryz.prog 159 #[.pointer (some ⟨b, 0, none⟩), tkV x] w fun e w' => e = .returned (.bool (tkIn k x)) ∧ Below w.heap.size w w' := by
  have HB0 := hideG (below_allocG w (Obj.cells #[.int .i64 (x : Int), .int .i64 ((x : Int) + 1)] 137))
  have k0 : (w.alloc (Obj.cells #[.int .i64 (x : Int), .int .i64 ((x : Int) + 1)] 137)).cell? ⟨w.heap.size, 0, none⟩ = some (.int .i64 (x : Int)) := by simp
  have k1 : (w.alloc (Obj.cells #[.int .i64 (x : Int), .int .i64 ((x : Int) + 1)] 137)).cell? ⟨w.heap.size, 1, none⟩ = some (.int .i64 ((x : Int) + 1)) := by simp
  obtain ⟨lv, hb, hl⟩ := h.below HB0.out
  generalize hw1 : w.alloc (Obj.cells #[.int .i64 (x : Int), .int .i64 ((x : Int) + 1)] 137) = w1 at *
  have HW1 := hideG hw1
  obtain ⟨c1, _⟩ := cellG (j := 1) (u := lv) hb rfl
  obtain ⟨c2, _⟩ := cellG (j := 2) (u := .int .i64 (rf k.runs)) hb rfl
  obtain ⟨c3, _⟩ := cellG (j := 3) (u := .int .i64 (ri k.runs)) hb rfl
  have CC := hideG (fun d os => Calls.regrown_of (w := w1) (d := d) (os := os) ((tkContains_any (hl.below (below_regrown w1 d os)) x hx (fun y hy => Nat.le_trans (hk.1 y hy) (by omega))).mono fun e w' q => ⟨q.1, q.2⟩))
  have d0 := cell_regrown k0
  have d1 := cell_regrown k1
  have e1 := cell_regrown c1
  have e2 := cell_regrown c2
  have e3 := cell_regrown c3
  clear k0 k1 c1 c2 c3 hw1
  obtain ⟨a, c, rfl, hc, hm, hl⟩ := hl
  clear hl hb h
  have hr : ((rf k.runs == (x : Int)) && (ri k.runs == (x : Int) + 1)) = decide (k.runs = some x) := by
    rw [Bool.eq_iff_iff]
    cases k.runs with
    | none => simp only [rf, ri, Bool.and_eq_true, beq_iff_eq, decide_eq_true_eq]; exact ⟨fun h => by omega, fun h => by cases h⟩
    | some i => simp only [rf, ri, Bool.and_eq_true, beq_iff_eq, decide_eq_true_eq, Option.some.injEq]; exact ⟨fun h => by omega, fun h => by subst h; exact ⟨rfl, rfl⟩⟩
  generalize hti : tkIn k x = ti
  unfold tkIn at hti
  generalize decide (k.runs = some x) = b1 at *
  generalize rf k.runs = r1 at *
  generalize ri k.runs = r2 at *
  generalize decide (x ∈ k.list) = b2 at *
  have HTI := hideG hti
  have heq : ∀ W, (binOp .eql 137 (.agg #[.int .i64 r1, .int .i64 r2]) (.agg #[.int .i64 (x : Int), .int .i64 ((x : Int) + 1)])).run Tryz.prog W = .ok (.bool b1) W := fun W => by rw [eql_task, hr]
  clear hti hr
  cases b1
  · go_enter Tryz.func159, Tryz.ntmps159
    go_wp2_with fail
    rw [HW1.out]
    refine wp_region_quiet_below (by kernel_rfl) (by kernel_rfl) ?_
    repeat (go_big_quiet_step (first | (go_at_call 223; exact CC.out _ _)))
    refine wpQuiet_nil ?_
    intro _ hw'
    obtain ⟨⟨dq, osq⟩, hw''⟩ := hw'
    subst hw''
    go_wp2
    go_ret
    exact ⟨by rw [← HTI.out]; simp, HB0.out.trans ((below_regrown w1 dq osq).mono HB0.out.size)⟩
  · go_enter Tryz.func159, Tryz.ntmps159
    go_wp2_with fail
    rw [HW1.out]
    refine wp_region_quiet_below (by kernel_rfl) (by kernel_rfl) ?_
    repeat (go_big_quiet_step (first | (go_at_call 223; exact CC.out _ _)))
    refine wpQuiet_nil ?_
    intro _ hw'
    obtain ⟨⟨dq, osq⟩, hw''⟩ := hw'
    subst hw''
    go_wp2
    go_ret
    exact ⟨by rw [← HTI.out]; simp, HB0.out.trans ((below_regrown w1 dq osq).mono HB0.out.size)⟩
end Go.Proofs.YtkncboinfcnklaaGreatDoor

namespace Go.Proofs.YtkncboinfcnklaaGreatDoor
open Go.RowKit Go.Deep Go.Proofs.YtkncboinfcnklaaGreatDoor.Mth

/-- A slice of pointers to these blocks. -/
def RdP (w : World) (v : Value) (bs : List Nat) : Prop :=
  ∃ (a : Option Addr) (c : Nat), v = .slice a bs.length c ∧ bs.length ≤ c ∧ c ≤ maxLen ∧ (bs = [] ∨ ∃ b o, a = some ⟨b, o, none⟩ ∧ ∀ j, j < bs.length → w.cell? ⟨b, o + j, none⟩ = some (.pointer (some ⟨bs.getD j 0, 0, none⟩)))
theorem RdP.below {w w' : World} {v : Value} {bs : List Nat} (h : RdP w v bs) (hb : Below w.heap.size w w') : RdP w' v bs := by
  obtain ⟨a, c, rfl, hc, hm, h⟩ := h
  refine ⟨a, c, rfl, hc, hm, ?_⟩
  rcases h with h | ⟨b, o, rfl, h⟩
  · exact Or.inl h
  · exact Or.inr ⟨b, o, rfl, fun j hj => (hb.cell (p := ⟨b, o + j, none⟩) (World.block_lt_of_cell? _ _ (h j hj))).trans (h j hj)⟩
def wk0 : Wk := ⟨[], none, 0⟩
/-- The workers of a log read so. -/
structure WksRd (w : World) (lb : Nat) (v : Value) (bs : List Nat) (ks : List Wk) : Prop where
  row : RdP w v bs
  len : bs.length = ks.length
  one : ∀ j, j < ks.length → WkRd w lb (bs.getD j 0) (ks.getD j wk0)
  ok : ∀ j, j < ks.length → WkOk (ks.getD j wk0)
  few : ks.length ≤ 4
theorem WksRd.below {w w' : World} {lb : Nat} {v : Value} {bs : List Nat} {ks : List Wk} (h : WksRd w lb v bs ks) (hb : Below w.heap.size w w') : WksRd w' lb v bs ks := ⟨h.row.below hb, h.len, fun j hj => (h.one j hj).below hb, h.ok, h.few⟩

set_option maxHeartbeats 1000000 in
theorem hasTask1_any {w : World} {lb b tb : Nat} {k : Wk} (h : WkRd w lb b k) (hk : WkOk k) (x : Nat) (hx : x ≤ 100) (ht : w.heap[tb]? = some (Obj.cells #[.int .i64 (x : Int), .int .i64 ((x : Int) + 1)] 137 (0, 0))) :
    Calls Tryz.prog 158 #[.pointer (some ⟨b, 0, none⟩), .pointer (some ⟨tb, 0, none⟩)] w fun e w' => e = .returned (.bool (tkIn k x)) ∧ Below w.heap.size w w' := by
  have CH := hideG (wkHas_any h hk x hx)
  obtain ⟨k0, _⟩ := cellG (j := 0) (u := .int .i64 (x : Int)) ht rfl
  obtain ⟨k1, _⟩ := cellG (j := 1) (u := .int .i64 ((x : Int) + 1)) ht rfl
  generalize tkIn k x = bb at *
  go_enter Tryz.func158, Tryz.ntmps158
  go_wp2_with (first | (go_at_call 159; refine CH.out.mono ?_; rintro e w2 ⟨rfl, hb⟩; have HB2 := hideG hb; clear hb))
  go_ret
  exact ⟨rfl, HB2.out⟩

set_option maxRecDepth 100000 in
set_option maxHeartbeats 1000000 in
theorem wkIndex_any {w : World} {lb tb : Nat} {v : Value} {bs : List Nat} {ks : List Wk} (h : WksRd w lb v bs ks) (x : Nat) (hx : x ≤ 100) (ht : w.heap[tb]? = some (Obj.cells #[.int .i64 (x : Int), .int .i64 ((x : Int) + 1)] 137 (0, 0))) :
    Calls Tryz.prog 222 #[v, .func (.func 158) #[] #[.pointer (some ⟨tb, 0, none⟩)]] w fun e w' => ∃ r : Int, e = .returned (.int .i64 r) ∧ decide (0 ≤ r) = ks.any (fun k => tkIn k x) ∧ Below w.heap.size w w' := by
  obtain ⟨a, c, rfl, hc, hm, hp⟩ := h.row
  unfold maxLen at hm
  have hln := h.len
  have HH := hideG h
  have HT := hideG ht
  have HP := hideG hp
  clear h hp ht
  rw [hln] at hc
  generalize hn : ks.length = n at *
  have HN := hideG hn
  clear hn
  rw [hln]
  have HLN := hideG hln
  clear hln
  go_enter Tryz.func222, Tryz.ntmps222
  go_wp2_with fail
  go_loopw [8] (fun i wr => ∃ k : Nat, k ≤ n ∧ i = .int .i64 k ∧ Below w.heap.size w wr ∧ ∀ j, j < k → tkIn (ks.getD j wk0) x = false) (fun i _ => n - (intOf i).toNat)
  case atStart => exact ⟨0, Nat.zero_le _, rfl, Below.refl _ _, fun j hj => absurd hj (Nat.not_lt_zero _)⟩
  case round =>
    obtain ⟨k, hk, rfl, hb, hno⟩ := hrel
    have HBW := hideG hb
    have HNO := hideG hno
    clear hb hno
    by_cases hlt : k < n
    · have C1 := hideG (hasTask1_any ((HH.out.one k (by rw [HN.out]; exact hlt)).below HBW.out) (HH.out.ok k (by rw [HN.out]; exact hlt)) x hx ((HBW.out.block tb (Array.getElem?_eq_some_iff.1 HT.out).1).trans HT.out))
      rcases HP.out with h | ⟨b, o, rfl, h⟩
      · have := HLN.out; rw [h] at this; simp at this; omega
      have d1 := h k (by rw [HLN.out]; exact hlt)
      have d2 : wr.cell? ⟨b, o + k, none⟩ = some (.pointer (some ⟨bs.getD k 0, 0, none⟩)) := (HBW.out.cell (p := ⟨b, o + k, none⟩) (World.block_lt_of_cell? _ _ d1)).trans d1
      clear h d1
      generalize bs.getD k 0 = pb at *
      cases hti : tkIn (ks.getD k wk0) x
      · have HTI := hideG hti
        rw [hti] at C1
        clear hti
        go_wp2_with (first | (go_at_call 158; refine C1.out.mono ?_; rintro e w2 ⟨rfl, hb⟩; have HB2 := hideG (HBW.out.trans (hb.mono HBW.out.size)); clear hb))
        go_roundw
        case rel => exact ⟨k + 1, by omega, by go_num, HB2.out, fun j hj => by
          by_cases c : j = k
          · subst c; exact HTI.out
          · exact HNO.out j (by omega)⟩
        case measure => simp [intOf]; omega
      · have HTI := hideG hti
        rw [hti] at C1
        clear hti
        go_wp2_with (first | (go_at_call 158; refine C1.out.mono ?_; rintro e w2 ⟨rfl, hb⟩; have HB2 := hideG (HBW.out.trans (hb.mono HBW.out.size)); clear hb))
        go_ret
        exact ⟨k, rfl, by
          have hm : ks.any (fun k => tkIn k x) = true := List.any_eq_true.2 ⟨ks.getD k wk0, getDmem (by rw [HN.out]; exact hlt), HTI.out⟩
          rw [hm]; exact decide_eq_true (by omega), HB2.out⟩
    · go_wp2
      go_ret
      exact ⟨-1, rfl, by
        have hm : ks.any (fun k => tkIn k x) = false := List.any_eq_false.2 (fun y hy => by
          obtain ⟨j, hj, e⟩ := List.mem_iff_getElem.1 hy
          have := HNO.out j (by rw [HN.out] at hj; omega)
          rw [show ks.getD j wk0 = y by simp [List.getD, hj, e]] at this
          rw [this]; simp)
        rw [hm]; rfl, HBW.out⟩

set_option maxHeartbeats 1000000 in
theorem wkContains_any {w : World} {lb tb : Nat} {v : Value} {bs : List Nat} {ks : List Wk} (h : WksRd w lb v bs ks) (x : Nat) (hx : x ≤ 100) (ht : w.heap[tb]? = some (Obj.cells #[.int .i64 (x : Int), .int .i64 ((x : Int) + 1)] 137 (0, 0))) :
    Calls Tryz.prog 157 #[v, .func (.func 158) #[] #[.pointer (some ⟨tb, 0, none⟩)]] w fun e w' => e = .returned (.bool (ks.any (fun k => tkIn k x))) ∧ Below w.heap.size w w' := by
  have CI := hideG (wkIndex_any h x hx ht)
  obtain ⟨a, c, rfl, hc, hm, hp⟩ := h.row
  clear h hp ht
  generalize ks.any (fun k => tkIn k x) = bb at *
  go_enter Tryz.func157, Tryz.ntmps157
  go_wp2_with (first | (go_at_call 222; refine CI.out.mono ?_; rintro e w2 ⟨r, rfl, hr, hb⟩; have HR := hideG hr; have HB2 := hideG hb; clear hr hb))
  go_ret
  exact ⟨by rw [← HR.out]; rfl, HB2.out⟩

set_option maxHeartbeats 1000000 in
theorem hasTask_any {w : World} {lb : Nat} {v : Value} {bs : List Nat} {ks : List Wk} (h : WksRd w lb v bs ks) (hv : w.cell? ⟨lb, 14, none⟩ = some v) (x : Nat) (hx : x ≤ 100) :
    Calls Tryz.prog 99 #[.pointer (some ⟨lb, 0, none⟩), tkV x] w fun e w' => e = .returned (.bool (ks.any (fun k => tkIn k x))) ∧ Below w.heap.size w w' := by
  have HB0 := hideG (below_allocG w (Obj.cells #[.int .i64 (x : Int), .int .i64 ((x : Int) + 1)] 137))
  have k0 : (w.alloc (Obj.cells #[.int .i64 (x : Int), .int .i64 ((x : Int) + 1)] 137)).heap[w.heap.size]? = some (Obj.cells #[.int .i64 (x : Int), .int .i64 ((x : Int) + 1)] 137 (0, 0)) := by
    show (w.heap.push _)[w.heap.size]? = _
    rw [Array.getElem?_push, if_pos rfl]
  have CI := hideG (wkContains_any (h.below HB0.out) x hx k0)
  obtain ⟨a, c, rfl, hc, hm, hp⟩ := h.row
  have hv2 := (HB0.out.cell (p := ⟨lb, 14, none⟩) (World.block_lt_of_cell? _ _ hv)).trans hv
  clear h hp k0 hv
  generalize ks.any (fun k => tkIn k x) = bb at *
  go_enter Tryz.func99, Tryz.ntmps99
  go_wp2_with (first | (go_at_call 157; refine CI.out.mono ?_; rintro e w2 ⟨rfl, hb⟩; have HB2 := hideG hb; clear hb))
  go_ret
  exact ⟨rfl, HB0.out.trans (HB2.out.mono HB0.out.size)⟩
end Go.Proofs.YtkncboinfcnklaaGreatDoor
