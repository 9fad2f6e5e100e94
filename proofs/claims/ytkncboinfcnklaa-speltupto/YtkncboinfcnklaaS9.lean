import Derived.Test.YtkncboinfcnklaaS8
import Derived.Lib.OwnBridge
namespace Go.Proofs.Ytkncboinfcnklaa.Str
open Go.RowKit Go.Deep Go.Proofs.Ytkncboinfcnklaa.Mth

theorem cmp_ex (x y : ByteArray) : ∃ s : Int, (∀ w, Calls Try.prog 32 #[.string x, .string y] w fun e w' => e = .returned (.int .i64 s) ∧ w' = w) ∧ (0 < s ↔ ltS y x) ∧ (s < 0 ↔ ltS x y) := by
  rcases sordS.tri x y with c | c | c
  · exact ⟨-1, fun w => cmp_lt x y w c, ⟨fun h => absurd h (by omega), fun h => absurd (sordS.tr _ _ _ c h) (sordS.irr _)⟩, ⟨fun _ => c, fun _ => by omega⟩⟩
  · subst c; exact ⟨0, fun w => cmp_eq x w, ⟨fun h => absurd h (by omega), fun h => absurd h (sordS.irr _)⟩, ⟨fun h => absurd h (by omega), fun h => absurd h (sordS.irr _)⟩⟩
  · exact ⟨1, fun w => cmp_gt x y w c, ⟨fun _ => c, fun _ => by omega⟩, ⟨fun h => absurd h (by omega), fun h => absurd (sordS.tr _ _ _ c h) (sordS.irr _)⟩⟩

theorem bet_any (lo hi : ByteArray) (w0 : World) (T : BT ByteArray) : BetSaid lo hi w0 T := by
  induction T with
  | nil => exact bet_nil lo hi w0
  | node b o a l r ihl ihr =>
    intro u w v acc hu h hup hcur hb
    have ho : o = 0 := h.1
    subst ho
    obtain ⟨s1, c1, p1, q1⟩ := cmp_ex a lo
    obtain ⟨s2, c2, p2, q2⟩ := cmp_ex a hi
    have hn := bet_node lo hi w0 b a l r ihl ihr s1 s2 c1 c2 u w v acc hu h hup hcur hb
    rw [lst] at hup
    have e : acc ++ btw ltS lo hi (lst (.node b 0 a l r)) = acc ++ ((if 0 < s1 then btw ltS lo hi (lst l) else []) ++ ((if 0 ≤ s1 ∧ s2 ≤ 0 then [a] else []) ++ (if s2 < 0 then btw ltS lo hi (lst r) else []))) := by
      rw [lst, btw_node]
      congr 1
      congr 1
      · by_cases c : 0 < s1
        · rw [if_pos c]
        · rw [if_neg c]; exact btw_low hup sordS (fun h => c (p1.2 h))
      · congr 1
        · by_cases c : 0 ≤ s1 ∧ s2 ≤ 0
          · rw [if_pos c, if_pos ⟨fun h => by have := q1.2 h; omega, fun h => by have := p2.2 h; omega⟩]
          · rw [if_neg c, if_neg (fun h => c ⟨by by_cases d : s1 < 0; exact absurd (q1.1 d) h.1; omega, by by_cases d : 0 < s2; exact absurd (p2.1 d) h.2; omega⟩)]
        · by_cases c : s2 < 0
          · rw [if_pos c]
          · rw [if_neg c]; exact btw_high hup sordS (fun h => c (q2.2 h))
    rw [e]
    exact hn

set_option maxHeartbeats 400000 in
theorem between_any (sb : Nat) (T : BT ByteArray) (lo hi : ByteArray) (w : World) (h : SetAt w sb T) (hb : (lst T).length ≤ 1048576) :
    Calls Try.prog 20 #[.pointer (some ⟨sb, 0, none⟩), .string lo, .string hi] w (BetP w (btw ltS lo hi (lst T))) := by
  obtain ⟨hc, _, hT, hup⟩ := h
  obtain ⟨u, hu⟩ := ptr_pointer T
  rw [hu] at hc
  have B := hide (bet_any lo hi w T u w (.slice none 0 0) [] hu hT hup ⟨Below.refl _ _, World.ownsRow_nil _ _ _ _⟩ (by simpa using hb))
  clear hu hT hup hb
  go_enter Try.func20, Try.ntmps20
  go_wp2_with (go_at_call 35; refine B.out.mono ?_; rintro e w1 ⟨v1, rfl, hcur⟩; have HC := hide hcur; clear hcur)
  go_ret
  exact ⟨v1, rfl, by simpa using HC.out⟩

/-- A slice whose elements read as these numbers. -/
def Rd (w : World) (v : Value) (l : List ByteArray) : Prop :=
  ∃ (a : Option Addr) (c : Nat), v = .slice a l.length c ∧ l.length ≤ c ∧ c ≤ maxLen ∧ (a = none → c = 0) ∧ (l = [] ∨ ∃ b o, a = some ⟨b, o, none⟩ ∧ ∀ j, j < l.length → w.cell? ⟨b, o + j, none⟩ = some (.string (l.getD j ByteArray.empty)))

theorem Rd.below {w w' : World} {v : Value} {l : List ByteArray} (h : Rd w v l) (hb : Below w.heap.size w w') : Rd w' v l := by
  obtain ⟨a, c, rfl, hc, hm, hz, h⟩ := h
  refine ⟨a, c, rfl, hc, hm, hz, ?_⟩
  rcases h with h | ⟨b, o, rfl, h⟩
  · exact Or.inl h
  · refine Or.inr ⟨b, o, rfl, fun j hj => ?_⟩
    have h1 := h j hj
    exact (hb.cell (p := ⟨b, o + j, none⟩) (World.block_lt_of_cell? _ _ h1)).trans h1

theorem rd_own {w : World} {B : Nat} {v : Value} {l : List ByteArray} (h : w.ownsRow B 9 1 v l.length (l.map eS)) : Rd w v l := by
  by_cases hv : v = .slice none 0 0
  · have hl : l = [] := by
      rcases h.2 with ⟨_, h0⟩ | ⟨g, cap, cur, hv', _⟩
      · exact List.length_eq_zero_iff.1 h0
      · rw [hv] at hv'; cases hv'
    subst hl
    exact ⟨none, 0, hv, Nat.le_refl _, by unfold maxLen; omega, fun _ => rfl, Or.inl rfl⟩
  · obtain ⟨g, cap, rfl, _, _, hn, hm, _, hH⟩ := Lib.holds_of_ownsRow (enc := eS) h hv
    refine ⟨_, cap, rfl, hn, hm, (fun h => by cases h), Or.inr ⟨g, 0, rfl, fun j hj => ?_⟩⟩
    have := (hH j (by simpa using hj)).1
    rw [this]
    simp [getElem!_pos, hj, List.getD]

set_option maxHeartbeats 400000 in
theorem in_nil (a : Option Addr) (c : Nat) (x : ByteArray) (w : World) :
    Calls Try.prog 16 #[.slice a 0 c, .string x] w fun e w' => e = .returned (.bool false) ∧ w' = w := by
  go_enter Try.func16, Try.ntmps16
  go_wp2
  go_loop [5] (fun i => i = .int .i64 0) (fun _ => 0)
  case atStart => exact rfl
  case round =>
    subst hrel
    go_wp2
    go_ret
    exact ⟨rfl, rfl⟩

theorem mem_take_succ {l : List ByteArray} {k : Nat} {x : ByteArray} (hk : k < l.length) : x ∈ l.take (k + 1) ↔ x ∈ l.take k ∨ l.getD k ByteArray.empty = x := by
  have e : l.getD k ByteArray.empty = l[k] := by simp [List.getD, hk]
  rw [List.take_succ_eq_append_getElem hk, List.mem_append, List.mem_singleton, e]
  exact or_congr Iff.rfl eq_comm

set_option maxHeartbeats 1000000 in
theorem in_some (b o c : Nat) (l : List ByteArray) (x : ByteArray) (w : World) (hc : l.length ≤ c) (hm : c ≤ maxLen) (h : ∀ j, j < l.length → w.cell? ⟨b, o + j, none⟩ = some (.string (l.getD j ByteArray.empty))) :
    Calls Try.prog 16 #[.slice (some ⟨b, o, none⟩) l.length c, .string x] w fun e w' => e = .returned (.bool (memD x (l))) ∧ w' = w := by
  unfold maxLen at hm
  have H := hide h
  clear h
  generalize hn : l.length = n at *
  have HN := hide hn
  clear hn
  go_enter Try.func16, Try.ntmps16
  go_wp2
  go_loop [5] (fun i => ∃ k : Nat, k ≤ n ∧ i = .int .i64 k ∧ ¬ x ∈ l.take k) (fun i => n - (intOf i).toNat)
  case atStart => exact ⟨0, Nat.zero_le _, rfl, by simp⟩
  case round =>
    obtain ⟨k, hk, rfl, hno⟩ := hrel
    have HNO := hide hno
    clear hno
    by_cases hlt : k < n
    · have hcell := H.out k hlt
      generalize hy : l.getD k ByteArray.empty = y at *
      have HY := hide hy
      clear hy
      by_cases hxy : y = x
      · subst hxy
        go_wp2
        go_ret
        have e : memD y (l) = true := by apply memD_true; exact List.mem_of_mem_take ((mem_take_succ (by rw [HN.out]; exact hlt)).2 (Or.inr HY.out))
        exact ⟨by rw [e]; rfl, rfl⟩
      · have hbeq : (y.toList == x.toList) = false := by rw [eq_eq]; simpa using hxy
        go_wp2
        go_round
        case rel => exact ⟨k + 1, by omega, by go_num, fun hm => by rcases (mem_take_succ (by rw [HN.out]; exact hlt)).1 hm with h | h; exact HNO.out h; exact hxy (HY.out.symm.trans h)⟩
        case measure => simp [intOf]; omega
    · go_wp2
      go_ret
      have e : memD x (l) = false := by apply memD_false; intro hm; apply HNO.out; rw [List.take_of_length_le (by rw [HN.out]; omega)]; exact hm
      exact ⟨by rw [e]; rfl, rfl⟩

theorem in_any {v : Value} {l : List ByteArray} (x : ByteArray) {w : World} (h : Rd w v l) :
    Calls Try.prog 16 #[v, .string x] w fun e w' => e = .returned (.bool (memD x (l))) ∧ w' = w := by
  obtain ⟨a, c, rfl, hc, hm, _, h⟩ := h
  rcases h with h | ⟨b, o, rfl, h⟩
  · subst h
    refine (in_nil a c x w).mono ?_
    rintro e w' ⟨rfl, rfl⟩
    exact ⟨by rw [memD_false (by simp)], rfl⟩
  · exact in_some b o c l x w hc hm h
end Go.Proofs.Ytkncboinfcnklaa.Str
