import Derived.Test.YtkncboinfcnklabGreatDoorShelf3
import Derived.Test.YtkncboinfcnklabGreatDoorQ20
import Derived.Test.YtkncboinfcnklabGreatDoorQ21
import Derived.Test.YtkncboinfcnklabGreatDoorQ18
import Derived.Lib.ItoaLen
import Derived.Lib.AtoiErrMem
import Derived.Test.YtkncboinfcnklabGreatDoorQ3
import Derived.Test.YtkncboinfcnklabGreatDoorQ8
namespace Go.Proofs.YtkncboinfcnklabGreatDoor
open Go.RowKit Go.Deep Go.Shelf Go.Proofs.YtkncboinfcnklabGreatDoor.Mth

theorem decFrom_snoc (b : UInt8) : ∀ (l : List UInt8) (acc : Nat), Lib.decFrom acc (l ++ [b]) = (Lib.decFrom acc l).bind fun m => (Lib.digitVal b).map (m * 10 + ·)
  | [], acc => by
    simp only [List.nil_append, Lib.decFrom]
    cases Lib.digitVal b <;> rfl
  | c :: l, acc => by
    simp only [List.cons_append, Lib.decFrom]
    cases Lib.digitVal c with
    | none => rfl
    | some d => exact decFrom_snoc b l _
theorem digit_ofNat {d : Nat} (h : d < 10) : Lib.digitVal (UInt8.ofNat (48 + d)) = some d := by
  have e : (UInt8.ofNat (48 + d)).toNat = 48 + d := by
    rw [UInt8.toNat_ofNat']
    omega
  unfold Lib.digitVal
  rw [e, if_pos (by omega)]
  congr 1
  omega
theorem dec_digits (u : Nat) : Lib.decFrom 0 (Lib.decDigits u) = some u := by
  induction u using Nat.strongRecOn with
  | ind u ih =>
    rw [Lib.decDigits]
    by_cases h : u < 10
    · rw [dif_pos h]
      simp only [Lib.decFrom, digit_ofNat h]
      congr 1
      omega
    · rw [dif_neg h, decFrom_snoc, ih (u / 10) (by omega), digit_ofNat (by omega)]
      show some (u / 10 * 10 + u % 10) = some u
      congr 1
      omega
theorem dec_ne (u : Nat) : Lib.decDigits u ≠ [] := by
  rw [Lib.decDigits]
  split <;> simp
theorem atoi_itoa (n : Nat) : Lib.atoi (Lib.itoa (n : Int)) = some (n : Int) := by
  have e : Lib.itoa (n : Int) = Lib.decDigits n := by
    unfold Lib.itoa
    rw [if_neg (by omega)]
    rfl
  rw [e]
  have h1 := dec_digits n
  have h2 := dec_ne n
  generalize Lib.decDigits n = l at *
  cases l with
  | nil => exact absurd rfl h2
  | cons b r =>
    obtain ⟨d, hd⟩ := Lib.digit_of_decFrom _ _ _ h1 0 b rfl
    obtain ⟨h3, h4, _⟩ := Lib.digitVal_eq hd
    have c1 : (b == 45) = false := by
      rw [beq_eq_false_iff_ne]
      rintro rfl
      exact absurd h3 (by decide)
    have c2 : (b == 43) = false := by
      rw [beq_eq_false_iff_ne]
      rintro rfl
      exact absurd h3 (by decide)
    simp only [Lib.atoi, c1, c2, Lib.decNat, List.isEmpty_cons, h1]
    rfl
theorem nDig_le : ∀ (k u : Nat), u < 10 ^ (k + 1) → Lib.nDigits u ≤ k + 1
  | 0, u, h => by rw [Lib.nDigits_small (by omega)]; omega
  | k + 1, u, h => by
    rw [Lib.nDigits]
    split
    · omega
    · have := nDig_le k (u / 10) (by rw [Nat.pow_succ] at h; omega)
      omega
theorem itoaB_size7 (n : Nat) (h : n ≤ 1000000) : (itoaB (n : Int)).size ≤ 7 := by
  unfold itoaB Lib.itoa
  rw [if_neg (by omega)]
  have := nDig_le 6 n (by omega)
  simp only [ByteArray.size, List.size_toArray, Int.toNat_natCast, Lib.decDigits_length]
  exact this
theorem atoi_any (n : Nat) (h : n ≤ 1000000) (w : World) :
    Calls Tryz.prog 102 #[.string (itoaB (n : Int))] w fun e w' => e = .returned (.tuple #[.int .i64 (n : Int), .nilIface]) ∧ Below w.heap.size w w' := by
  refine (Any.strconv_Atoi Tryz.laysAtoi (itoaB (n : Int)) (n : Int) (by have := itoaB_size7 n h; omega) (by unfold itoaB; simpa using atoi_itoa n) w).mono ?_
  rintro e w' ⟨rfl, t, rfl⟩
  exact ⟨rfl, Lib.bytesWorld_below _ _ _⟩

set_option maxRecDepth 100000 in
set_option maxHeartbeats 2000000 in
theorem tickJ_any {w : World} {pb : Nat} {c : Nat} {v : Value} (hb : w.heap[pb]? = some (Obj.cells #[.int .i64 (c : Int), v] 135 (0, 0))) (n : Nat) (hn : n ≤ 1000000) (hc : c ≤ 1000000000000) :
    Calls Tryz.prog 81 #[ptrV pb, .string (itoaB (n : Int))] w fun e w' => e = .returned (.tuple #[]) ∧ w'.heap[pb]? = some (Obj.cells #[.int .i64 ((c + n : Nat) : Int), v] 135 (0, 0)) ∧ Tch (fun k => k = pb) w w' := by
  have CA := hide (atoi_any n hn w)
  have hlt := (Array.getElem?_eq_some_iff.1 hb).1
  have HB := hide hb
  have F : Hid (∀ W, Below w.heap.size w W → W.cell? ⟨pb, 0, none⟩ = some (.int .i64 (c : Int)) ∧ W.frozen? ⟨pb, 0, none⟩ = false ∧ (W.setCell ⟨pb, 0, none⟩ (.int .i64 ((c : Int) + (n : Int)))).heap[pb]? = some (Obj.cells #[.int .i64 ((c + n : Nat) : Int), v] 135 (0, 0)) ∧ Tch (fun k => k = pb) w (W.setCell ⟨pb, 0, none⟩ (.int .i64 ((c : Int) + (n : Int))))) := fun W hW => by
    have e := (hW.block pb hlt).trans HB.out
    obtain ⟨h1, h2⟩ := cell_of (j := 0) (u := .int .i64 (c : Int)) e rfl
    refine ⟨h1, h2, ?_, hW.os, hW.tape, hW.output, by simpa using hW.size, fun k hk hne => (set_other hne).trans (hW.block k hk)⟩
    have := Rl.set_blk (j := 0) (v := .int .i64 ((c : Int) + (n : Int))) e
    rw [this]
    simp
  have hwr : IntKind.i64.wrap ((c : Int) + (n : Int)) = (c : Int) + (n : Int) := by rw [IntKind.wrap_i64]; omega
  clear hb
  go_enter Tryz.func81, Tryz.ntmps81
  go_wp2_with (first
    | (go_at_call 102; refine CA.out.mono ?_; rintro e w2 ⟨rfl, hb2⟩; obtain ⟨c0, f0, k1, k2⟩ := F.out w2 hb2; have HK1 := hide k1; have HK2 := hide k2; clear hb2 k1 k2))
  go_end0
  exact ⟨rfl, HK1.out, HK2.out⟩
end Go.Proofs.YtkncboinfcnklabGreatDoor

namespace Go.Proofs.YtkncboinfcnklabGreatDoor
open Go.RowKit Go.Deep Go.Proofs.YtkncboinfcnklabGreatDoor.Mth

/-! ### words, by where they stand -/
/-- The letters at the beginning, as small ones. -/
def lead : List Int → List UInt8
  | [] => []
  | c :: l => if ltr c = 0 then [] else UInt8.ofNat (ltr c).toNat :: lead l
theorem cut_mem : ∀ (l : List Int) (cur y : List UInt8), y ∈ cut cur l ↔ y ≠ [] ∧ (y = cur ++ lead l ∨ ∃ p c q, l = p ++ c :: q ∧ ltr c = 0 ∧ y = lead q)
  | [], cur, y => by
    rw [cut, lead, List.append_nil]
    have hno : ¬ ∃ p c q, ([] : List Int) = p ++ c :: q ∧ ltr c = 0 ∧ y = lead q := by
      rintro ⟨p, c, q, h, _⟩
      cases p <;> cases h
    cases cur with
    | nil => simp only [List.isEmpty_nil, if_true, List.not_mem_nil, false_iff]; rintro ⟨h1, h2 | h2⟩; exact h1 h2; exact hno h2
    | cons a r =>
      simp only [List.isEmpty_cons, Bool.false_eq_true, if_false, List.mem_singleton]
      constructor
      · intro h; subst h; exact ⟨by simp, Or.inl rfl⟩
      · rintro ⟨_, h | h⟩; exact h; exact absurd h hno
  | c :: l, cur, y => by
    rw [cut, lead]
    by_cases h : ltr c = 0
    · rw [if_pos h, if_pos h, List.append_nil]
      have ih := cut_mem l [] y
      rw [List.nil_append] at ih
      have e : (∃ p d q, c :: l = p ++ d :: q ∧ ltr d = 0 ∧ y = lead q) ↔ (y = lead l ∨ ∃ p d q, l = p ++ d :: q ∧ ltr d = 0 ∧ y = lead q) := by
        constructor
        · rintro ⟨p, d, q, h1, h2, h3⟩
          cases p with
          | nil => rw [List.nil_append] at h1; injection h1 with h1 h4; subst h4; exact Or.inl h3
          | cons a p => rw [List.cons_append] at h1; injection h1 with h1 h4; exact Or.inr ⟨p, d, q, h4, h2, h3⟩
        · rintro (h1 | ⟨p, d, q, h1, h2, h3⟩)
          · exact ⟨[], c, l, rfl, h, h1⟩
          · exact ⟨c :: p, d, q, by rw [h1]; rfl, h2, h3⟩
      rw [e]
      cases cur with
      | nil =>
        simp only [List.isEmpty_nil, if_true]
        rw [ih]
        constructor
        · rintro ⟨h1, h2⟩; exact ⟨h1, Or.inr h2⟩
        · rintro ⟨h1, h2 | h2⟩; exact absurd h2 h1; exact ⟨h1, h2⟩
      | cons a r =>
        simp only [List.isEmpty_cons, Bool.false_eq_true, if_false, List.mem_cons]
        rw [ih]
        constructor
        · rintro (h1 | ⟨h1, h2⟩); subst h1; exact ⟨by simp, Or.inl rfl⟩; exact ⟨h1, Or.inr h2⟩
        · rintro ⟨h1, h2 | h2⟩; exact Or.inl h2; exact Or.inr ⟨h1, h2⟩
    · rw [if_neg h, if_neg h, cut_mem l _ y, List.append_assoc]
      have e : (∃ p d q, c :: l = p ++ d :: q ∧ ltr d = 0 ∧ y = lead q) ↔ (∃ p d q, l = p ++ d :: q ∧ ltr d = 0 ∧ y = lead q) := by
        constructor
        · rintro ⟨p, d, q, h1, h2, h3⟩
          cases p with
          | nil => rw [List.nil_append] at h1; injection h1 with h1 h4; subst h1; exact absurd h2 h
          | cons a p => rw [List.cons_append] at h1; injection h1 with h1 h4; exact ⟨p, d, q, h4, h2, h3⟩
        · rintro ⟨p, d, q, h1, h2, h3⟩
          exact ⟨c :: p, d, q, by rw [h1]; rfl, h2, h3⟩
      rw [e]
      rfl
/-- A word stands at a place of a text, as a whole one. -/
def StB (l : List Int) (i : Nat) (y : List Int) : Prop := i + y.length ≤ l.length ∧ (∀ k, k < y.length → ltr (l.getD (i + k) 0) ≠ 0 ∧ ltr (l.getD (i + k) 0) = y.getD k 0) ∧ (i = 0 ∨ ltr (l.getD (i - 1) 0) = 0) ∧ (i + y.length < l.length → ltr (l.getD (i + y.length) 0) = 0)
theorem ltrBd (c : Int) : ltr c = 0 ∨ (48 ≤ ltr c ∧ ltr c ≤ 122) := by
  unfold ltr
  split
  · omega
  · split <;> omega
theorem lead_iff : ∀ (y : List UInt8) (q : List Int), lead q = y ↔ (y.length ≤ q.length ∧ (∀ k, k < y.length → ltr (q.getD k 0) ≠ 0 ∧ ltr (q.getD k 0) = (y.map (fun u => (u.toNat : Int))).getD k 0) ∧ (y.length < q.length → ltr (q.getD y.length 0) = 0))
  | [], [] => by simp [lead]
  | [], c :: q => by
    rw [lead]
    by_cases h : ltr c = 0
    · simp [h]
    · simp [h]
  | a :: y, [] => by simp [lead]
  | a :: y, c :: q => by
    rw [lead]
    by_cases h : ltr c = 0
    · rw [if_pos h]
      constructor
      · intro q; cases q
      · rintro ⟨_, h2, _⟩
        exact absurd h (h2 0 (by simp)).1
    · rw [if_neg h]
      have hb := ltrBd c
      have ih := lead_iff y q
      have e1 : UInt8.ofNat (ltr c).toNat = a ↔ ltr c = (a.toNat : Int) := by
        constructor
        · intro e
          rw [← e]
          rw [UInt8.toNat_ofNat']
          omega
        · intro e
          have : (ltr c).toNat = a.toNat := by omega
          rw [this]
          simp
      rw [List.cons.injEq, ih, e1]
      constructor
      · rintro ⟨h1, h2, h3, h4⟩
        refine ⟨by simp; omega, fun k hk => ?_, fun hk => ?_⟩
        · cases k with
          | zero => exact ⟨h, h1⟩
          | succ k => have := h3 k (by simp at hk; omega); simpa using this
        · simp at hk ⊢
          simpa using h4 hk
      · rintro ⟨h2, h3, h4⟩
        refine ⟨by simpa using (h3 0 (by simp)).2, by simp at h2; omega, fun k hk => ?_, fun hk => ?_⟩
        · have := h3 (k + 1) (by simp; omega)
          simpa using this
        · have := h4 (by simp; omega)
          simpa using this
theorem cut_stands (l : List Int) (y : List UInt8) (hy : y ≠ []) : y ∈ cut [] l ↔ ∃ i, i < l.length ∧ StB l i (y.map (fun u => (u.toNat : Int))) := by
  rw [cut_mem, List.nil_append]
  have key : ∀ i, (i = 0 ∨ ltr (l.getD (i - 1) 0) = 0) → i ≤ l.length → (y = lead (l.drop i) ↔ StB l i (y.map (fun u => (u.toNat : Int)))) := by
    intro i h0 hi
    have hg : ∀ k, (l.drop i).getD k 0 = l.getD (i + k) 0 := fun k => by simp [List.getD]
    rw [eq_comm, lead_iff]
    unfold StB
    simp only [hg, List.length_drop, List.length_map]
    constructor
    · rintro ⟨a, b, c⟩
      exact ⟨by omega, b, h0, fun h => c (by omega)⟩
    · rintro ⟨a, b, _, c⟩
      exact ⟨by omega, b, fun h => c (by omega)⟩
  have hpos : 0 < y.length := by cases y with | nil => exact absurd rfl hy | cons a r => simp
  constructor
  · rintro ⟨_, h | ⟨p, c, q, h1, h2, h3⟩⟩
    · have := (key 0 (Or.inl rfl) (Nat.zero_le _)).1 (by simpa using h)
      refine ⟨0, ?_, this⟩
      have := this.1
      simp at this
      omega
    · have := (key (p.length + 1) (Or.inr (by rw [h1]; simp [h2])) (by rw [h1]; simp)).1 (by rw [h3, h1]; simp)
      refine ⟨_, ?_, this⟩
      have := this.1
      simp at this
      omega
  · rintro ⟨i, hi, h⟩
    refine ⟨hy, ?_⟩
    have e := (key i h.2.2.1 (by omega)).2 h
    by_cases h0 : i = 0
    · subst h0; left; simpa using e
    · right
      refine ⟨l.take (i - 1), l.getD (i - 1) 0, l.drop i, ?_, ?_, e⟩
      · have : l.drop (i - 1) = l.getD (i - 1) 0 :: l.drop i := by
          rw [List.drop_eq_getElem_cons (by omega), List.getElem_eq_getD 0, show i - 1 + 1 = i by omega]
        rw [← this, List.take_append_drop]
      · rcases h.2.2.1 with h1 | h1
        · exact absurd h1 h0
        · exact h1
/-- A text has a word just if it stands somewhere in it. -/
theorem wd_stands (s x : ByteArray) (hx : 0 < x.size) : x ∈ wd s ↔ ∃ i, i < s.size ∧ StB (tb s) i (tb x) := by
  have hl : (tb s).length = s.size := tb_len s
  have h0 : x.data.toList ≠ [] := fun q => by
    have := congrArg List.length q
    simp at this
    have h2 : x.size = x.data.size := rfl
    rw [h2, this] at hx
    simp at hx
  have h1 := cut_stands (tb s) x.data.toList h0
  rw [hl] at h1
  refine Iff.trans ?_ h1
  rw [wd_cut]
  have hm : ∀ y, y ∈ mergedS ((cut [] (tb s)).map ofL) ↔ y ∈ (cut [] (tb s)).map ofL := fun y => (mergedS_up _).2 y
  rw [hm]
  constructor
  · intro h
    obtain ⟨y, hy, e⟩ := List.mem_map.1 h
    rw [← e, ofL_data]
    exact hy
  · intro h
    exact List.mem_map.2 ⟨_, h, ofL_of x⟩
end Go.Proofs.YtkncboinfcnklabGreatDoor

namespace Go.Proofs.YtkncboinfcnklabGreatDoor.Kp
open Go.RowKit Go.Deep Go.Proofs.YtkncboinfcnklabGreatDoor.Mth

/-- Is it a letter? -/
def isL (c : Int) : Bool := !decide (ltr c = 0)
theorem isL_yes {c : Int} (h : ltr c ≠ 0) : isL c = true := by simp [isL, h]
theorem isL_no {c : Int} (h : ltr c = 0) : isL c = false := by simp [isL, h]
set_option maxHeartbeats 1000000 in
/-- A letter of almanackeep: as a small one, and is it one? -/
theorem letter_any (c : Int) (h0 : 0 ≤ c) (h1 : c < 256) (w : World) :
    Calls Tryz.prog 56 #[.int .u8 c] w fun e w' => (∃ d : Int, e = .returned (.tuple #[.int .u8 d, .bool (isL c)]) ∧ (ltr c ≠ 0 → d = ltr c) ∧ 0 ≤ d ∧ d < 256) ∧ w' = w := by
  by_cases hA : 65 ≤ c ∧ c ≤ 90
  · obtain ⟨a1, a2⟩ := hA
    have hl : Hid (ltr c = c + 32) := by
      show _ = _
      unfold ltr
      rw [if_neg (by omega), if_pos (by omega)]
    go_enter Tryz.func56, Tryz.ntmps56
    go_wp2_with fail
    go_ret2
    refine ⟨⟨c + 32, ?_, fun _ => hl.out.symm, by omega, by omega⟩, rfl⟩
    rw [isL_yes (by rw [hl.out]; omega)]
    rfl
  · by_cases h2 : 97 ≤ c ∧ c ≤ 122
    · have hl : Hid (ltr c = c) := by
        show _ = _
        unfold ltr
        rw [if_pos (by omega)]
      go_enter Tryz.func56, Tryz.ntmps56
      go_wp2_with fail
      all_goals first
        | (exfalso; omega)
        | (go_ret2
           refine ⟨⟨c, ?_, fun _ => hl.out.symm, by omega, by omega⟩, rfl⟩
           rw [isL_yes (by rw [hl.out]; omega)]
           rfl)
    · by_cases h3 : 48 ≤ c ∧ c ≤ 57
      · have hl : Hid (ltr c = c) := by
          show _ = _
          unfold ltr
          rw [if_pos (by omega)]
        go_enter Tryz.func56, Tryz.ntmps56
        go_wp2_with fail
        all_goals first
          | (exfalso; omega)
          | (go_ret2
             refine ⟨⟨c, ?_, fun _ => hl.out.symm, by omega, by omega⟩, rfl⟩
             rw [isL_yes (by rw [hl.out]; omega)]
             rfl)
      · have hl : Hid (ltr c = 0) := by
          show _ = _
          unfold ltr
          rw [if_neg (by omega), if_neg (by omega)]
        go_enter Tryz.func56, Tryz.ntmps56
        go_wp2_with fail
        all_goals first
          | (exfalso; omega)
          | (go_ret2
             refine ⟨⟨c, ?_, fun q => absurd hl.out q, by omega, by omega⟩, rfl⟩
             rw [isL_no hl.out]
             first | rfl | (simp; omega))
end Go.Proofs.YtkncboinfcnklabGreatDoor.Kp

namespace Go.Proofs.YtkncboinfcnklabGreatDoor.Kp
open Go.RowKit Go.Deep Go.Proofs.YtkncboinfcnklabGreatDoor.Mth

def stR (l : List Int) (i : Nat) (y : List Int) (e : Ending) : Prop := ∃ b : Bool, e = .returned (.bool b) ∧ (b = true ↔ StB l i y)
set_option maxRecDepth 100000 in
set_option maxHeartbeats 2000000 in
theorem stands_any (s x : ByteArray) (i : Nat) (hs : s.size ≤ 1048576) (hx : x.size ≤ 1048576) (hi : i ≤ s.size) (w : World) :
    Calls Tryz.prog 32 #[.string s, .int .i64 (i : Int), .string x] w fun e w' => stR (tb s) i (tb x) e ∧ w' = w := by
  have hls := tb_len s
  have hlx := tb_len x
  by_cases hl : i + x.size ≤ s.size
  · have hl2 : ¬ (s.size : Int) < (i : Int) + (x.size : Int) := by omega
    go_enter Tryz.func32, Tryz.ntmps32
    go_wp2_with fail
    have HBS := hide (tb_bts s)
    have HBX := hide (tb_bts x)
    have HLS := hide hls
    have HLX := hide hlx
    clear hls hlx
    go_loop [7] (fun v => ∃ k : Nat, k ≤ x.size ∧ v = .int .i64 k ∧ ∀ j, j < k → ltr ((tb s).getD (i + j) 0) ≠ 0 ∧ ltr ((tb s).getD (i + j) 0) = (tb x).getD j 0) (fun v => x.size - (intOf v).toNat)
    case atStart => exact ⟨0, Nat.zero_le _, rfl, fun j hj => absurd hj (by omega)⟩
    case round =>
      obtain ⟨k, hk, rfl, hall⟩ := hrel
      have HA := hide hall
      clear hall
      by_cases hlt : k < x.size
      · have hix := idx_at s (i + k) (by omega) w
        have hiy := idx_at x k hlt w
        rw [Int.natCast_add] at hix
        obtain ⟨g0, g1⟩ := bts_get HBS.out (i + k)
        obtain ⟨y0, y1⟩ := bts_get HBX.out k
        have CL := hide (letter_any ((tb s).getD (i + k) 0) g0 g1 w)
        have HNO : Hid ((ltr ((tb s).getD (i + k) 0) = 0 ∨ ltr ((tb s).getD (i + k) 0) ≠ (tb x).getD k 0) → ¬ StB (tb s) i (tb x)) := by
          intro q h
          have := h.2.1 k (by rw [HLX.out]; exact hlt)
          rcases q with q | q
          · exact this.1 q
          · exact q this.2
        generalize hc : (tb s).getD (i + k) 0 = c at *
        generalize hy : (tb x).getD k 0 = y at *
        have HC := hide hc
        have HY := hide hy
        clear hc hy
        by_cases hz : ltr c = 0
        · have hb := isL_no hz
          rw [hb] at CL
          have HZ := hide hz
          clear hz hb
          go_wp2_with (first | (go_at_call 56; refine CL.out.mono ?_; rintro e w' ⟨⟨d, rfl, hd, d0, d1⟩, rfl⟩; clear hd))
          go_ret
          exact ⟨⟨false, rfl, by simp; exact HNO.out (Or.inl HZ.out)⟩, rfl⟩
        · have hb := isL_yes hz
          rw [hb] at CL
          have HZ := hide hz
          clear hb
          by_cases hq : ltr c = y
          · have hnx : Hid (∀ j, j < k + 1 → ltr ((tb s).getD (i + j) 0) ≠ 0 ∧ ltr ((tb s).getD (i + j) 0) = (tb x).getD j 0) := by
              intro j hj
              by_cases e : j = k
              · rw [e, HC.out, HY.out]
                exact ⟨HZ.out, hq⟩
              · exact HA.out j (by omega)
            have HQ := hide hq
            clear hq hz
            go_wp2_with (first | (go_at_call 56; refine CL.out.mono ?_; rintro e w' ⟨⟨d, rfl, hd, d0, d1⟩, rfl⟩; obtain rfl : d = y := (hd HZ.out).trans HQ.out; clear hd))
            go_round
            case rel => exact ⟨k + 1, by omega, by go_num, hnx.out⟩
            case measure => simp [intOf]; omega
          · have HQ := hide hq
            clear hq hz
            go_wp2_with (first | (go_at_call 56; refine CL.out.mono ?_; rintro e w' ⟨⟨d, rfl, hd, d0, d1⟩, rfl⟩; have hne : d ≠ y := (fun q => HQ.out ((hd HZ.out).symm.trans q)); clear hd))
            go_ret
            exact ⟨⟨false, rfl, by simp; exact HNO.out (Or.inr HQ.out)⟩, rfl⟩
      · obtain rfl : k = x.size := by omega
        clear hlt
        have FIN : Hid ((i = 0 ∨ ltr ((tb s).getD (i - 1) 0) = 0) → (i + x.size < s.size → ltr ((tb s).getD (i + x.size) 0) = 0) → StB (tb s) i (tb x)) := by
          intro h1 h2
          refine ⟨by rw [HLS.out, HLX.out]; exact hl, fun j hj => HA.out j (by rw [HLX.out] at hj; exact hj), h1, fun h3 => ?_⟩
          rw [HLS.out, HLX.out] at h3
          rw [HLX.out]
          exact h2 h3
        have NO1 : Hid (i ≠ 0 → ltr ((tb s).getD (i - 1) 0) ≠ 0 → ¬ StB (tb s) i (tb x)) := by
          intro h0 h1 h
          rcases h.2.2.1 with q | q
          · exact h0 q
          · exact h1 q
        have NO2 : Hid (i + x.size < s.size → ltr ((tb s).getD (i + x.size) 0) ≠ 0 → ¬ StB (tb s) i (tb x)) := by
          intro h0 h1 h
          have := h.2.2.2 (by rw [HLS.out, HLX.out]; exact h0)
          rw [HLX.out] at this
          exact h1 this
        obtain ⟨e0, e1⟩ := bts_get HBS.out (i + x.size)
        obtain ⟨f0, f1⟩ := bts_get HBS.out (i - 1)
        have CB : Hid (∀ w1, w1 = w → Calls Tryz.prog 56 #[.int .u8 ((tb s).getD (i + x.size) 0)] w1 fun e w' => (∃ d : Int, e = .returned (.tuple #[.int .u8 d, .bool (isL ((tb s).getD (i + x.size) 0))])) ∧ w' = w) := by
          intro w1 h1
          subst h1
          refine (letter_any _ e0 e1 w1).mono ?_
          rintro e w' ⟨⟨d, rfl, _⟩, rfl⟩
          exact ⟨⟨d, rfl⟩, rfl⟩
        have CA : Hid (∀ w1, w1 = w → Calls Tryz.prog 56 #[.int .u8 ((tb s).getD (i - 1) 0)] w1 fun e w' => (∃ d : Int, e = .returned (.tuple #[.int .u8 d, .bool (isL ((tb s).getD (i - 1) 0))])) ∧ w' = w) := by
          intro w1 h1
          subst h1
          refine (letter_any _ f0 f1 w1).mono ?_
          rintro e w' ⟨⟨d, rfl, _⟩, rfl⟩
          exact ⟨⟨d, rfl⟩, rfl⟩
        by_cases hi0 : i = 0
        · subst hi0
          by_cases hend : x.size < s.size
          · have hix := idx_at s x.size hend w
            rw [Nat.zero_add] at e0 e1 CB FIN NO2
            by_cases hz : ltr ((tb s).getD x.size 0) = 0
            · have hst := hide (FIN.out (Or.inl rfl) (fun _ => hz))
              rw [isL_no hz] at CB
              clear FIN NO1 NO2 hz CA
              generalize (tb s).getD x.size 0 = c at *
              go_wp2_with (first | (go_at_call 56; refine (CB.out _ rfl).mono ?_; rintro e w' ⟨⟨d, rfl⟩, rfl⟩))
              go_ret
              exact ⟨⟨true, rfl, by simp; exact hst.out⟩, rfl⟩
            · have hst := hide (NO2.out (by omega) hz)
              rw [isL_yes hz] at CB
              clear FIN NO1 NO2 hz CA
              generalize (tb s).getD x.size 0 = c at *
              go_wp2_with (first | (go_at_call 56; refine (CB.out _ rfl).mono ?_; rintro e w' ⟨⟨d, rfl⟩, rfl⟩))
              go_ret
              exact ⟨⟨false, rfl, by simp; exact hst.out⟩, rfl⟩
          · have hst := hide (FIN.out (Or.inl rfl) (fun q => by omega))
            clear FIN NO1 NO2 CA CB
            go_wp2_with fail
            go_ret
            exact ⟨⟨true, rfl, by simp; exact hst.out⟩, rfl⟩
        · have hix1 := idx_at s (i - 1) (by omega) w
          rw [show ((i - 1 : Nat) : Int) = (i : Int) - 1 by omega] at hix1
          have hip : (0 : Int) < (i : Int) := by omega
          by_cases hz1 : ltr ((tb s).getD (i - 1) 0) = 0
          · rw [isL_no hz1] at CA
            by_cases hend : i + x.size < s.size
            · have hix := idx_at s (i + x.size) hend w
              rw [Int.natCast_add] at hix
              have hend' : (i : Int) + (x.size : Int) < (s.size : Int) := by omega
              by_cases hz : ltr ((tb s).getD (i + x.size) 0) = 0
              · have hst := hide (FIN.out (Or.inr hz1) (fun _ => hz))
                rw [isL_no hz] at CB
                clear FIN NO1 NO2 hz hz1
                generalize (tb s).getD (i + x.size) 0 = c at *
                generalize (tb s).getD (i - 1) 0 = c1 at *
                go_wp2_with (first | (go_at_call_of 56 (Value.int .u8 c1); refine (CA.out _ rfl).mono ?_; rintro e w' ⟨⟨d, rfl⟩, rfl⟩) | (go_at_call_of 56 (Value.int .u8 c); refine (CB.out _ rfl).mono ?_; rintro e w' ⟨⟨d2, rfl⟩, rfl⟩))
                go_ret
                exact ⟨⟨true, rfl, by simp; exact hst.out⟩, rfl⟩
              · have hst := hide (NO2.out (by omega) hz)
                rw [isL_yes hz] at CB
                clear FIN NO1 NO2 hz hz1
                generalize (tb s).getD (i + x.size) 0 = c at *
                generalize (tb s).getD (i - 1) 0 = c1 at *
                go_wp2_with (first | (go_at_call_of 56 (Value.int .u8 c1); refine (CA.out _ rfl).mono ?_; rintro e w' ⟨⟨d, rfl⟩, rfl⟩) | (go_at_call_of 56 (Value.int .u8 c); refine (CB.out _ rfl).mono ?_; rintro e w' ⟨⟨d2, rfl⟩, rfl⟩))
                go_ret
                exact ⟨⟨false, rfl, by simp; exact hst.out⟩, rfl⟩
            · have hend' : ¬ (i : Int) + (x.size : Int) < (s.size : Int) := by omega
              have hst := hide (FIN.out (Or.inr hz1) (fun q => by omega))
              clear FIN NO1 NO2 CB hz1
              generalize (tb s).getD (i - 1) 0 = c1 at *
              go_wp2_with (first | (go_at_call 56; refine (CA.out _ rfl).mono ?_; rintro e w' ⟨⟨d, rfl⟩, rfl⟩))
              go_ret
              exact ⟨⟨true, rfl, by simp; exact hst.out⟩, rfl⟩
          · have hst := hide (NO1.out hi0 hz1)
            rw [isL_yes hz1] at CA
            by_cases hend : i + x.size < s.size
            · have hix := idx_at s (i + x.size) hend w
              rw [Int.natCast_add] at hix
              have hend' : (i : Int) + (x.size : Int) < (s.size : Int) := by omega
              clear FIN NO1 NO2 hz1
              generalize (tb s).getD (i + x.size) 0 = c at *
              generalize (tb s).getD (i - 1) 0 = c1 at *
              go_wp2_with (first | (go_at_call_of 56 (Value.int .u8 c1); refine (CA.out _ rfl).mono ?_; rintro e w' ⟨⟨d, rfl⟩, rfl⟩) | (go_at_call_of 56 (Value.int .u8 c); refine (CB.out _ rfl).mono ?_; rintro e w' ⟨⟨d2, rfl⟩, rfl⟩))
              go_ret
              exact ⟨⟨false, rfl, by simp; exact hst.out⟩, rfl⟩
            · have hend' : ¬ (i : Int) + (x.size : Int) < (s.size : Int) := by omega
              clear FIN NO1 NO2 CB hz1
              generalize (tb s).getD (i - 1) 0 = c1 at *
              go_wp2_with (first | (go_at_call 56; refine (CA.out _ rfl).mono ?_; rintro e w' ⟨⟨d, rfl⟩, rfl⟩))
              go_ret
              exact ⟨⟨false, rfl, by simp; exact hst.out⟩, rfl⟩
  · have hl2 : (s.size : Int) < (i : Int) + (x.size : Int) := by omega
    have HN : Hid (¬ StB (tb s) i (tb x)) := fun q => by
      have := q.1
      rw [hls, hlx] at this
      omega
    go_enter Tryz.func32, Tryz.ntmps32
    go_wp2_with fail
    go_ret
    exact ⟨⟨false, rfl, by simp; exact HN.out⟩, rfl⟩

set_option maxRecDepth 100000 in
set_option maxHeartbeats 1000000 in
/-- almanackeep's has: just if it is one of the words. -/
theorem has_any (s x : ByteArray) (hs : s.size ≤ 1048576) (hx : x.size ≤ 1048576) (h0 : 0 < x.size) (w : World) :
    Calls Tryz.prog 13 #[.string s, .string x] w fun e w' => e = .returned (.bool (memD x (wd s))) ∧ w' = w := by
  have HW := hide (wd_stands s x h0)
  have CS : Hid (∀ i : Nat, i ≤ s.size → Calls Tryz.prog 32 #[.string s, .int .i64 (i : Int), .string x] w fun e w' => stR (tb s) i (tb x) e ∧ w' = w) := fun i hi => stands_any s x i hs hx hi w
  generalize hm : memD x (wd s) = m
  have HM := hide hm
  clear hm
  go_enter Tryz.func13, Tryz.ntmps13
  go_wp2_with fail
  go_loop [5] (fun v => ∃ k : Nat, k ≤ s.size ∧ v = .int .i64 k ∧ ∀ j, j < k → ¬ StB (tb s) j (tb x)) (fun v => s.size - (intOf v).toNat)
  case atStart => exact ⟨0, Nat.zero_le _, rfl, fun j hj => absurd hj (by omega)⟩
  case round =>
    obtain ⟨k, hk, rfl, hall⟩ := hrel
    have HA := hide hall
    clear hall
    by_cases hlt : k < s.size
    · have C := hide (CS.out k hk)
      go_wp2_with (first | (go_at_call 32; refine C.out.mono ?_; rintro e w' ⟨⟨b, rfl, hb⟩, hw⟩; have HB := hide hb; clear hb; subst hw))
      · rename_i hbt
        go_ret
        have hin : x ∈ wd s := HW.out.2 ⟨k, hlt, HB.out.1 hbt⟩
        exact ⟨by rw [← HM.out, memD_true hin]; rfl, rfl⟩
      · rename_i hbt
        have hnx : Hid (∀ j, j < k + 1 → ¬ StB (tb s) j (tb x)) := by
          intro j hj
          by_cases e : j = k
          · rw [e]
            intro q
            rw [HB.out.2 q] at hbt
            cases hbt
          · exact HA.out j (by omega)
        go_round
        case rel => exact ⟨k + 1, by omega, by go_num, hnx.out⟩
        case measure => simp [intOf]; omega
    · obtain rfl : k = s.size := by omega
      have hin : ¬ x ∈ wd s := fun q => by
        obtain ⟨i, hi, h⟩ := HW.out.1 q
        exact HA.out i hi h
      have HIN := hide hin
      clear hin
      go_wp2_with fail
      go_ret
      exact ⟨by rw [← HM.out, memD_false HIN.out]; rfl, rfl⟩
end Go.Proofs.YtkncboinfcnklabGreatDoor.Kp

namespace Go.Proofs.YtkncboinfcnklabGreatDoor.Kp
open Go.RowKit Go.Deep Go.Proofs.YtkncboinfcnklabGreatDoor.Mth

/-- Which of n things a raw number speaks of. -/
def pkI (c n : Int) : Int := if c < 0 then (-(c + 1)).tmod n else c.tmod n
theorem pkI_bd (c n : Int) (hn : 0 < n) : 0 ≤ pkI c n ∧ pkI c n < n := by
  unfold pkI
  split
  · exact ⟨Int.tmod_nonneg _ (by omega), Int.tmod_lt_of_pos _ hn⟩
  · exact ⟨Int.tmod_nonneg _ (by omega), Int.tmod_lt_of_pos _ hn⟩
set_option maxHeartbeats 400000 in
theorem pick_any (c n : Int) (w : World) (h0 : -9223372036854775808 ≤ c) (h1 : c < 9223372036854775808) (hn : 0 < n) (hn1 : n ≤ 4611686018427387904) :
    Calls Tryz.prog 7 #[.int .i64 c, .int .i64 n] w fun e w' => e = .returned (.int .i64 (pkI c n)) ∧ w' = w := by
  have hz : (n == 0) = false := by simp; omega
  by_cases hc : c < 0
  · have hp : Hid (pkI c n = (-(c + 1)).tmod n) := if_pos hc
    have hm : 0 ≤ (-(c + 1)).tmod n ∧ (-(c + 1)).tmod n < n := ⟨Int.tmod_nonneg _ (by omega), Int.tmod_lt_of_pos _ hn⟩
    go_enter Tryz.func7, Tryz.ntmps7
    go_wp2
    go_ret
    exact ⟨by rw [hp.out]; simp [Int.neg_tmod], rfl⟩
  · have hp : Hid (pkI c n = c % n) := by
      show _ = _
      unfold pkI
      rw [if_neg hc, Int.tmod_eq_emod_of_nonneg (by omega)]
    go_enter Tryz.func7, Tryz.ntmps7
    go_wp2
    go_ret
    exact ⟨by rw [hp.out]; rfl, rfl⟩

/-- The words that are asked for. -/
def wds : List ByteArray := [⟨#[97]⟩, ⟨#[98]⟩, ⟨#[97, 98]⟩, ⟨#[100, 105, 115, 107]⟩, ⟨#[49]⟩, ⟨#[120, 57]⟩]
theorem words_any (w : World) : Calls Tryz.prog 11 #[] w fun e w' => e = .returned (.slice (some ⟨w.heap.size, 0, none⟩) 6 6) ∧ w' = w.alloc (Obj.cells #[.string ⟨#[97]⟩, .string ⟨#[98]⟩, .string ⟨#[97, 98]⟩, .string ⟨#[100, 105, 115, 107]⟩, .string ⟨#[49]⟩, .string ⟨#[120, 57]⟩] 9) := by
  go_enter Tryz.func11, Tryz.ntmps11
  go_wp2
  go_ret
  exact ⟨rfl, rfl⟩
theorem word_at (w : World) (i : Nat) (hi : i < 6) : (w.alloc (Obj.cells #[.string ⟨#[97]⟩, .string ⟨#[98]⟩, .string ⟨#[97, 98]⟩, .string ⟨#[100, 105, 115, 107]⟩, .string ⟨#[49]⟩, .string ⟨#[120, 57]⟩] 9)).cell? ⟨w.heap.size, i, none⟩ = some (.string (wds.getD i ⟨#[]⟩)) := by
  have hb := new_blk w #[.string ⟨#[97]⟩, .string ⟨#[98]⟩, .string ⟨#[97, 98]⟩, .string ⟨#[100, 105, 115, 107]⟩, .string ⟨#[49]⟩, .string ⟨#[120, 57]⟩] 9
  rcases (show i = 0 ∨ i = 1 ∨ i = 2 ∨ i = 3 ∨ i = 4 ∨ i = 5 by omega) with rfl | rfl | rfl | rfl | rfl | rfl
  · exact (cell_of (j := 0) hb rfl).1
  · exact (cell_of (j := 1) hb rfl).1
  · exact (cell_of (j := 2) hb rfl).1
  · exact (cell_of (j := 3) hb rfl).1
  · exact (cell_of (j := 4) hb rfl).1
  · exact (cell_of (j := 5) hb rfl).1
abbrev I64 (x : Int) : Prop := -9223372036854775808 ≤ x ∧ x < 9223372036854775808
theorem Tryz.sizeCf : (Tryz.prog.info? 32).map (·.size) = some 6 := by kernel_rfl

end Go.Proofs.YtkncboinfcnklabGreatDoor.Kp
