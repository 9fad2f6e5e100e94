import Derived.Test.YtkncboinfcnklaaDoorP9
namespace Go.Proofs.YtkncboinfcnklaaDoor
open Go.RowKit Go.Deep Go.Proofs.YtkncboinfcnklaaDoor.Mth

/-- A reader, with what is left. -/
def Bel (v : Value) (B : Nat) : Prop := ∀ a n c, v = .slice (some a) n c → a.block < B
def Rdr (w : World) (r B : Nat) (left : List Int) : Prop := ∃ vl, w.heap[r]? = some (Obj.cells #[vl] 50 (0, 0)) ∧ RdB w vl left ∧ (left = [] ∨ Bel vl B)

theorem rdB_set {w : World} {r : Nat} {vl u v : Value} {l : List Int} (hr : w.heap[r]? = some (Obj.cells #[vl] 50 (0, 0))) (hvl : ∀ k x, vl ≠ .int k x) (h : RdB w v l) : RdB (w.setCell ⟨r, 0, none⟩ u) v l := by
  obtain ⟨a, c, rfl, hc, hm, h⟩ := h
  refine ⟨a, c, rfl, hc, hm, ?_⟩
  rcases h with h | ⟨b, o, rfl, h⟩
  · exact Or.inl h
  · refine Or.inr ⟨b, o, rfl, fun j hj => ?_⟩
    have h1 := h j hj
    rw [World.cell?_setCell_other _ _ _ _ ?_]
    · exact h1
    · intro e
      injection e with e1 e2 e3
      subst e1
      rw [← e2] at h1
      simp only [World.cell?, hr] at h1
      simp at h1
      exact hvl _ _ h1

theorem rdB_sl {w : World} {v : Value} {l : List Int} (h : RdB w v l) : ∀ k x, v ≠ .int k x := by
  obtain ⟨a, c, rfl, _⟩ := h
  intro k x e; cases e

theorem take_min (l : List Int) (n : Nat) : l.take (min n l.length) = l.take n := by
  by_cases c : n ≤ l.length
  · rw [Nat.min_eq_left c]
  · rw [Nat.min_eq_right (by omega), List.take_of_length_le (Nat.le_refl _), List.take_of_length_le (by omega)]
theorem drop_min (l : List Int) (n : Nat) : l.drop (min n l.length) = l.drop n := by
  by_cases c : n ≤ l.length
  · rw [Nat.min_eq_left c]
  · rw [Nat.min_eq_right (by omega), List.drop_of_length_le (Nat.le_refl _), List.drop_of_length_le (by omega)]

/-- What is left behind a take. -/
def lft (a : Option Addr) (L c n : Nat) : Value := if c = n then .slice a (L - n) 0 else .slice (a.map (fun x => x.add n)) (L - n) (c - n)

set_option maxHeartbeats 400000 in
theorem take_core (r n m : Nat) (a : Option Addr) (L c : Nat) (w : World) (hr : w.heap[r]? = some (Obj.cells #[.slice a L c] 50 (0, 0))) (_hn : n ≤ 1000) (hLc : L ≤ c) (hmx : c ≤ maxLen) (hmn : m = min n L) :
    Calls Tryd.prog 29 #[.pointer (some ⟨r, 0, none⟩), .int .i64 n] w fun e w' => e = .returned (.slice a m c) ∧ w' = w.setCell ⟨r, 0, none⟩ (lft a L c m) := by
  have k0 : w.cell? ⟨r, 0, none⟩ = some (.slice a L c) := by simp [World.cell?, hr]
  have k1 : w.frozen? ⟨r, 0, none⟩ = false := by simp [World.frozen?, hr]
  have _hm := hmx
  unfold maxLen at _hm
  clear hr
  have hmin : (min (n : Int) (L : Int)) = m := by omega
  have h1 : m ≤ L := by omega
  clear hmn
  go_enter Tryd.func29, Tryd.ntmps29
  go_wp2
  all_goals go_ret
  · refine ⟨rfl, ?_⟩
    unfold lft
    rw [if_pos (by omega)]
  · refine ⟨rfl, ?_⟩
    unfold lft
    rw [if_neg (by omega)]

theorem rdB_take {w : World} {a : Option Addr} {c : Nat} {l : List Int} (h : RdB w (.slice a l.length c) l) (n : Nat) (hn : n ≤ l.length) : RdB w (.slice a n c) (l.take n) := by
  obtain ⟨a', c', e, hc, hm, h⟩ := h
  injection e with e1 _ e3
  subst e1 e3
  refine ⟨a, c, by rw [List.length_take, Nat.min_eq_left hn], by rw [List.length_take]; omega, hm, ?_⟩
  rcases h with h | ⟨b, o, rfl, h⟩
  · subst h; exact Or.inl (by simp)
  · refine Or.inr ⟨b, o, rfl, fun j hj => ?_⟩
    rw [List.length_take] at hj
    rw [h j (by omega)]
    congr 2
    simp only [List.getD, List.getElem?_take]
    rw [if_pos (by omega)]

theorem rdB_drop {w : World} {a : Option Addr} {c : Nat} {l : List Int} (h : RdB w (.slice a l.length c) l) (n : Nat) (hn : n ≤ l.length) : RdB w (lft a l.length c n) (l.drop n) := by
  obtain ⟨a', c', e, hc, hm, h⟩ := h
  injection e with e1 _ e3
  subst e1 e3
  unfold lft
  by_cases q : c = n
  · rw [if_pos q]
    have : l.drop n = [] := List.drop_of_length_le (by omega)
    rw [this]
    exact ⟨a, 0, by simp; omega, by simp, by unfold maxLen; omega, Or.inl rfl⟩
  · rw [if_neg q]
    refine ⟨_, c - n, by rw [List.length_drop], by rw [List.length_drop]; omega, by omega, ?_⟩
    rcases h with h | ⟨b, o, rfl, h⟩
    · subst h; exact Or.inl (by simp)
    · refine Or.inr ⟨b, o + n, by simp [Addr.add_lit], fun j hj => ?_⟩
      rw [List.length_drop] at hj
      rw [Nat.add_assoc, h (n + j) (by omega)]
      simp [List.getD]

theorem lft_bel {a : Option Addr} {L c n k B : Nat} (h : Bel (.slice a k c) B) : Bel (lft a L c n) B := by
  intro a' n' c' e
  unfold lft at e
  by_cases q : c = n
  · rw [if_pos q] at e
    injection e with e _ _
    subst e
    exact h a' k c rfl
  · rw [if_neg q] at e
    injection e with e _ _
    cases a with
    | none => cases e
    | some x =>
      simp at e
      subst e
      have : (x.add n).block = x.block := by unfold Addr.add; split <;> rfl
      rw [this]
      exact h x k c rfl

theorem take_any (r n B : Nat) (l : List Int) (w : World) (h : Rdr w r B l) (hn : n ≤ 1000) :
    Calls Tryd.prog 29 #[.pointer (some ⟨r, 0, none⟩), .int .i64 n] w fun e w' => ∃ v' u, e = .returned v' ∧ w' = w.setCell ⟨r, 0, none⟩ u ∧ RdB w' v' (l.take n) ∧ Rdr w' r B (l.drop n) := by
  obtain ⟨vl, hr, hb, hbel⟩ := h
  obtain ⟨a, c, rfl, hc, hm⟩ := rdB_len hb
  refine (take_core r n (min n l.length) a l.length c w hr hn hc hm rfl).mono ?_
  rintro e w' ⟨rfl, rfl⟩
  refine ⟨_, _, rfl, rfl, ?_, lft a l.length c (min n l.length), ?_, ?_, hbel.imp (fun e => by rw [e]; simp) lft_bel⟩
  · have := rdB_take hb (min n l.length) (by omega)
    rw [take_min] at this
    exact rdB_set hr (rdB_sl hb) this
  · simp [World.setCell, Array.getElem?_modify, hr]
  · have := rdB_drop hb (min n l.length) (by omega)
    rw [drop_min] at this
    exact rdB_set hr (rdB_sl hb) this

theorem or_byte (a b : Nat) (h : b < 256) : (a * 256) ||| b = a * 256 + b := by
  have := Nat.two_pow_add_eq_or_of_lt (i := 8) (b := b) (by simpa using h) a
  rw [Nat.mul_comm] at this
  exact this.symm
theorem or_wrap (p x : Int) (x1 : 0 ≤ x) (x2 : x < 256) : bits BinOp.or IntKind.i64 (wrap64 (p * 256)) x = wrap64 (p * 256 + x) := by
  obtain ⟨b, rfl⟩ := Int.eq_ofNat_of_zero_le x1
  show IntKind.i64.wrap ((BitVec.ofInt 64 (wrap64 (p * 256)) ||| BitVec.ofInt 64 (b : Int)).toNat : Int) = _
  have e1 : BitVec.ofInt 64 (wrap64 (p * 256)) = BitVec.ofNat 64 ((p % 72057594037927936).toNat * 256) := by
    apply BitVec.eq_of_toNat_eq
    simp only [BitVec.toNat_ofInt, BitVec.toNat_ofNat]
    unfold wrap64
    omega
  have e2 : BitVec.ofInt 64 (b : Int) = BitVec.ofNat 64 b := by
    apply BitVec.eq_of_toNat_eq
    simp only [BitVec.toNat_ofInt, BitVec.toNat_ofNat]
    omega
  rw [e1, e2, BitVec.toNat_or, BitVec.toNat_ofNat, BitVec.toNat_ofNat, Nat.mod_eq_of_lt (by omega), Nat.mod_eq_of_lt (by omega), or_byte _ _ (by omega), IntKind.wrap_i64]
  unfold wrap64
  omega

theorem rdNum_snoc (l : List Int) (x : Int) : rdNum (l ++ [x]) = wrap64 (rdNum l * 256 + x) := by simp [rdNum, List.foldl_append]
theorem rdNum_take {l : List Int} {k : Nat} (h : k < l.length) : rdNum (l.take (k + 1)) = wrap64 (rdNum (l.take k) * 256 + l.getD k 0) := by
  rw [List.take_succ_eq_append_getElem h, rdNum_snoc]
  simp [List.getD, h]
theorem rdNum_bd (l : List Int) : -9223372036854775808 ≤ rdNum l ∧ rdNum l < 9223372036854775808 := by
  rcases List.eq_nil_or_concat l with rfl | ⟨m, x, rfl⟩
  · simp [rdNum]
  · rw [List.concat_eq_append, rdNum_snoc]; unfold wrap64; omega

set_option maxRecDepth 100000 in
set_option maxHeartbeats 400000 in
theorem number_any (r n B : Nat) (l : List Int) (w : World) (h : Rdr w r B l) (hl : Bts l) (hn : n ≤ 8) :
    Calls Tryd.prog 21 #[.pointer (some ⟨r, 0, none⟩), .int .i64 n] w fun e w' => e = .returned (.int .i64 (rdNum (l.take n))) ∧ (∃ u, w' = w.setCell ⟨r, 0, none⟩ u) ∧ Rdr w' r B (l.drop n) := by
  have CT := hide (take_any r n B l w h (by omega))
  clear h
  go_enter Tryd.func21, Tryd.ntmps21
  go_wp2_with fail
  refine CT.out.mono ?_
  rintro e w1 ⟨v1, u1, rfl, hw1, hrb, hrd⟩
  have HW := hide (⟨u1, hw1⟩ : ∃ u, w1 = w.setCell ⟨r, 0, none⟩ u)
  have HRD := hide hrd
  have hbt : Bts (l.take n) := fun x hx => hl x (List.mem_of_mem_take hx)
  generalize hMM : l.take n = M at *
  have HMM := hide hMM
  clear hMM
  have HRB := hide hrb
  obtain ⟨a, c, rfl, hc, hm⟩ := rdB_len hrb
  unfold maxLen at hm
  clear hw1 hrb hrd CT
  generalize hM : M.length = m at *
  have HM := hide hM
  clear hM
  go_wp2_with fail
  go_loop [5, 12] (fun p i => ∃ k : Nat, k ≤ m ∧ i = .int .i64 k ∧ p = .int .i64 (rdNum (M.take k))) (fun _ i => m - (intOf i).toNat)
  case atStart => exact ⟨0, Nat.zero_le _, rfl, rfl⟩
  case round =>
    obtain ⟨k, hk, rfl, rfl⟩ := hrel
    by_cases hlt : k < m
    · obtain ⟨b, o, rfl, _, hcell⟩ := rdB_at HRB.out k (by rw [HM.out]; exact hlt)
      have hst := hide (rdNum_take (l := M) (k := k) (by rw [HM.out]; exact hlt))
      have hx := bts_get hbt k
      have hp := rdNum_bd (M.take k)
      generalize M.getD k 0 = x at *
      generalize rdNum (M.take k) = p at *
      obtain ⟨x1, x2⟩ := hx
      obtain ⟨p1, p2⟩ := hp
      go_wp2
      go_round
      case rel => exact ⟨k + 1, by omega, by go_num, by rw [hst.out, or_wrap p x x1 x2]⟩
      case measure => simp [intOf]; omega
    · have hke : k = m := by omega
      subst hke
      go_wp2
      go_ret
      exact ⟨by rw [HMM.out, List.take_of_length_le (by rw [HM.out]; exact Nat.le_refl _)]; rfl, HW.out, HRD.out⟩
end Go.Proofs.YtkncboinfcnklaaDoor
