import Derived.Test.YtkncboinfcnklaaW8
import Derived.Lib.OwnBridge
namespace Go.Proofs.Ytkncboinfcnklaa
open Go.RowKit Go.Deep Mth

theorem cmp_ex (x y : Int) : ∃ s : Int, (∀ w, Calls Try.prog 25 #[.int .i64 x, .int .i64 y] w fun e w' => e = .returned (.int .i64 s) ∧ w' = w) ∧ (0 < s ↔ y < x) ∧ (s < 0 ↔ x < y) := by
  rcases Int.lt_trichotomy x y with c | c | c
  · exact ⟨-1, fun w => cmp_lt x y w c, by omega, by omega⟩
  · subst c; exact ⟨0, fun w => cmp_eq x w, by omega, by omega⟩
  · exact ⟨1, fun w => cmp_gt x y w c, by omega, by omega⟩

theorem bet_any (lo hi : Int) (w0 : World) (T : BT Int) : BetSaid lo hi w0 T := by
  induction T with
  | nil => exact bet_nil lo hi w0
  | node b o a l r ihl ihr =>
    intro u w v acc hu h hup hcur hb
    have ho : o = 0 := h.1
    subst ho
    obtain ⟨s1, c1, p1, q1⟩ := cmp_ex a lo
    obtain ⟨s2, c2, p2, q2⟩ := cmp_ex a hi
    have hn := bet_node lo hi w0 b a l r ihl ihr s1 s2 c1 c2 u w v acc hu h hup hcur hb
    rw [lst] at hup
    have e : acc ++ btw (fun a b : Int => a < b) lo hi (lst (.node b 0 a l r)) = acc ++ ((if 0 < s1 then btw (fun a b : Int => a < b) lo hi (lst l) else []) ++ ((if 0 ≤ s1 ∧ s2 ≤ 0 then [a] else []) ++ (if s2 < 0 then btw (fun a b : Int => a < b) lo hi (lst r) else []))) := by
      rw [lst, btw_node]
      congr 1
      congr 1
      · by_cases c : 0 < s1
        · rw [if_pos c]
        · rw [if_neg c]; exact btw_low hup sordInt (by omega)
      · congr 1
        · by_cases c : 0 ≤ s1 ∧ s2 ≤ 0
          · rw [if_pos c, if_pos (by omega)]
          · rw [if_neg c, if_neg (by omega)]
        · by_cases c : s2 < 0
          · rw [if_pos c]
          · rw [if_neg c]; exact btw_high hup sordInt (by omega)
    rw [e]
    exact hn

set_option maxHeartbeats 400000 in
theorem between_any (sb : Nat) (T : BT Int) (lo hi : Int) (w : World) (h : SetAt w sb T) (hb : (lst T).length ≤ 1048576) :
    Calls Try.prog 12 #[.pointer (some ⟨sb, 0, none⟩), .int .i64 lo, .int .i64 hi] w (BetP w (btw (fun a b : Int => a < b) lo hi (lst T))) := by
  obtain ⟨hc, _, hT, hup⟩ := h
  obtain ⟨u, hu⟩ := ptr_pointer T
  rw [hu] at hc
  have B := hide (bet_any lo hi w T u w (.slice none 0 0) [] hu hT hup ⟨Below.refl _ _, World.ownsRow_nil _ _ _ _⟩ (by simpa using hb))
  clear hu hT hup hb
  go_enter Try.func12, Try.ntmps12
  go_wp2_with (go_at_call 28; refine B.out.mono ?_; rintro e w1 ⟨v1, rfl, hcur⟩; have HC := hide hcur; clear hcur)
  go_ret
  exact ⟨v1, rfl, by simpa using HC.out⟩

/-- A slice whose elements read as these numbers. -/
def Rd (w : World) (v : Value) (l : List Int) : Prop :=
  ∃ (a : Option Addr) (c : Nat), v = .slice a l.length c ∧ l.length ≤ c ∧ c ≤ maxLen ∧ (a = none → c = 0) ∧ (l = [] ∨ ∃ b o, a = some ⟨b, o, none⟩ ∧ ∀ j, j < l.length → w.cell? ⟨b, o + j, none⟩ = some (.int .i64 (l.getD j 0)))

theorem Rd.below {w w' : World} {v : Value} {l : List Int} (h : Rd w v l) (hb : Below w.heap.size w w') : Rd w' v l := by
  obtain ⟨a, c, rfl, hc, hm, hz, h⟩ := h
  refine ⟨a, c, rfl, hc, hm, hz, ?_⟩
  rcases h with h | ⟨b, o, rfl, h⟩
  · exact Or.inl h
  · refine Or.inr ⟨b, o, rfl, fun j hj => ?_⟩
    have h1 := h j hj
    exact (hb.cell (p := ⟨b, o + j, none⟩) (World.block_lt_of_cell? _ _ h1)).trans h1

theorem rd_own {w : World} {B : Nat} {v : Value} {l : List Int} (h : w.ownsRow B 3 1 v l.length (l.map eI)) : Rd w v l := by
  by_cases hv : v = .slice none 0 0
  · have hl : l = [] := by
      rcases h.2 with ⟨_, h0⟩ | ⟨g, cap, cur, hv', _⟩
      · exact List.length_eq_zero_iff.1 h0
      · rw [hv] at hv'; cases hv'
    subst hl
    exact ⟨none, 0, hv, Nat.le_refl _, by unfold maxLen; omega, fun _ => rfl, Or.inl rfl⟩
  · obtain ⟨g, cap, rfl, _, _, hn, hm, _, hH⟩ := Lib.holds_of_ownsRow (enc := eI) h hv
    refine ⟨_, cap, rfl, hn, hm, (fun h => by cases h), Or.inr ⟨g, 0, rfl, fun j hj => ?_⟩⟩
    have := (hH j (by simpa using hj)).1
    rw [this]
    simp [getElem!_pos, hj, List.getD]

set_option maxHeartbeats 400000 in
theorem in_nil (a : Option Addr) (c : Nat) (x : Int) (w : World) :
    Calls Try.prog 8 #[.slice a 0 c, .int .i64 x] w fun e w' => e = .returned (.bool false) ∧ w' = w := by
  go_enter Try.func8, Try.ntmps8
  go_wp2
  go_loop [5] (fun i => i = .int .i64 0) (fun _ => 0)
  case atStart => exact rfl
  case round =>
    subst hrel
    go_wp2
    go_ret
    exact ⟨rfl, rfl⟩

theorem mem_take_succ {l : List Int} {k : Nat} {x : Int} (hk : k < l.length) : x ∈ l.take (k + 1) ↔ x ∈ l.take k ∨ l.getD k 0 = x := by
  have e : l.getD k 0 = l[k] := by simp [List.getD, hk]
  rw [List.take_succ_eq_append_getElem hk, List.mem_append, List.mem_singleton, e]
  exact or_congr Iff.rfl eq_comm

set_option maxHeartbeats 1000000 in
theorem in_some (b o c : Nat) (l : List Int) (x : Int) (w : World) (hc : l.length ≤ c) (hm : c ≤ maxLen) (h : ∀ j, j < l.length → w.cell? ⟨b, o + j, none⟩ = some (.int .i64 (l.getD j 0))) :
    Calls Try.prog 8 #[.slice (some ⟨b, o, none⟩) l.length c, .int .i64 x] w fun e w' => e = .returned (.bool (decide (x ∈ l))) ∧ w' = w := by
  unfold maxLen at hm
  have H := hide h
  clear h
  generalize hn : l.length = n at *
  have HN := hide hn
  clear hn
  go_enter Try.func8, Try.ntmps8
  go_wp2
  go_loop [5] (fun i => ∃ k : Nat, k ≤ n ∧ i = .int .i64 k ∧ ¬ x ∈ l.take k) (fun i => n - (intOf i).toNat)
  case atStart => exact ⟨0, Nat.zero_le _, rfl, by simp⟩
  case round =>
    obtain ⟨k, hk, rfl, hno⟩ := hrel
    have HNO := hide hno
    clear hno
    by_cases hlt : k < n
    · have hcell := H.out k hlt
      generalize hy : l.getD k 0 = y at *
      have HY := hide hy
      clear hy
      by_cases hxy : y = x
      · subst hxy
        go_wp2
        go_ret
        have e : decide (y ∈ l) = true := by rw [decide_eq_true_iff]; exact List.mem_of_mem_take ((mem_take_succ (by rw [HN.out]; exact hlt)).2 (Or.inr HY.out))
        exact ⟨by rw [e]; rfl, rfl⟩
      · have hbeq : (y == x) = false := by simp [hxy]
        go_wp2
        go_round
        case rel => exact ⟨k + 1, by omega, by go_num, fun hm => by rcases (mem_take_succ (by rw [HN.out]; exact hlt)).1 hm with h | h; exact HNO.out h; exact hxy (HY.out.symm.trans h)⟩
        case measure => simp [intOf]; omega
    · go_wp2
      go_ret
      have e : decide (x ∈ l) = false := by rw [decide_eq_false_iff_not]; intro hm; apply HNO.out; rw [List.take_of_length_le (by rw [HN.out]; omega)]; exact hm
      exact ⟨by rw [e]; rfl, rfl⟩

theorem in_any {v : Value} {l : List Int} (x : Int) {w : World} (h : Rd w v l) :
    Calls Try.prog 8 #[v, .int .i64 x] w fun e w' => e = .returned (.bool (decide (x ∈ l))) ∧ w' = w := by
  obtain ⟨a, c, rfl, hc, hm, _, h⟩ := h
  rcases h with h | ⟨b, o, rfl, h⟩
  · subst h
    simpa using in_nil a c x w
  · exact in_some b o c l x w hc hm h
end Go.Proofs.Ytkncboinfcnklaa
