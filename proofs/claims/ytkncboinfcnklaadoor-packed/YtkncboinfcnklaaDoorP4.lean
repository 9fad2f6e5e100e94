import Derived.Test.YtkncboinfcnklaaDoorP3
namespace Go.Proofs.YtkncboinfcnklaaDoor
open Go.RowKit Go.Deep Go.Proofs.YtkncboinfcnklaaDoor.Mth

/-- A slice of bytes. -/
def RdB (w : World) (v : Value) (l : List Int) : Prop :=
  ∃ (a : Option Addr) (c : Nat), v = .slice a l.length c ∧ l.length ≤ c ∧ c ≤ maxLen ∧ (l = [] ∨ ∃ b o, a = some ⟨b, o, none⟩ ∧ ∀ j, j < l.length → w.cell? ⟨b, o + j, none⟩ = some (.int .u8 (l.getD j 0)))

theorem RdB.below {w w' : World} {v : Value} {l : List Int} (h : RdB w v l) (hb : Below w.heap.size w w') : RdB w' v l := by
  obtain ⟨a, c, rfl, hc, hm, h⟩ := h
  refine ⟨a, c, rfl, hc, hm, ?_⟩
  rcases h with h | ⟨b, o, rfl, h⟩
  · exact Or.inl h
  · refine Or.inr ⟨b, o, rfl, fun j hj => ?_⟩
    have h1 := h j hj
    exact (hb.cell (p := ⟨b, o + j, none⟩) (World.block_lt_of_cell? _ _ h1)).trans h1

theorem rdB_len {w : World} {v : Value} {l : List Int} (h : RdB w v l) : ∃ a c, v = .slice a l.length c ∧ l.length ≤ c ∧ c ≤ maxLen := by
  obtain ⟨a, c, rfl, hc, hm, _⟩ := h
  exact ⟨a, c, rfl, hc, hm⟩

theorem rdB_at {w : World} {a : Option Addr} {n c : Nat} {l : List Int} (h : RdB w (.slice a n c) l) (j : Nat) (hj : j < l.length) : ∃ b o, a = some ⟨b, o, none⟩ ∧ b < w.heap.size ∧ w.cell? ⟨b, o + j, none⟩ = some (.int .u8 (l.getD j 0)) := by
  obtain ⟨a', c', e, hc, hm, h⟩ := h
  injection e with e1 e2 e3
  rcases h with h | ⟨b, o, e4, h⟩
  · subst h; simp at hj
  · exact ⟨b, o, e1.trans e4, World.block_lt_of_cell? _ _ (h j hj), h j hj⟩

theorem rdB_own {w : World} {B : Nat} {v : Value} {l : List Int} (h : w.ownsRow B 5 1 v l.length (l.map eB)) : RdB w v l := by
  by_cases hv : v = .slice none 0 0
  · have hl : l = [] := by
      rcases h.2 with ⟨_, h0⟩ | ⟨g, cap, cur, hv', _⟩
      · exact List.length_eq_zero_iff.1 h0
      · rw [hv] at hv'; cases hv'
    subst hl
    exact ⟨none, 0, hv, Nat.le_refl _, by unfold maxLen; omega, Or.inl rfl⟩
  · obtain ⟨g, cap, rfl, _, _, hn, hm, _, hH⟩ := Lib.holds_of_ownsRow (enc := eB) h hv
    refine ⟨_, cap, rfl, hn, hm, Or.inr ⟨g, 0, rfl, fun j hj => ?_⟩⟩
    have := (hH j (by simpa using hj)).1
    rw [this]
    simp [getElem!_pos, hj, List.getD]

theorem bts_get {l : List Int} (h : Bts l) (k : Nat) : 0 ≤ l.getD k 0 ∧ l.getD k 0 < 256 := by
  by_cases c : k < l.length
  · have := h l[k] (List.getElem_mem c)
    simpa [List.getD, c] using this
  · simp [List.getD, List.getElem?_eq_none (by omega : l.length ≤ k)]

theorem sm_take {l : List Int} {k : Nat} (h : k < l.length) : sm (l.take (k + 1)) = smStep (sm (l.take k)) (l.getD k 0) := by
  rw [List.take_succ_eq_append_getElem h, sm_snoc]
  simp [List.getD, h]

set_option maxRecDepth 100000 in
set_option maxHeartbeats 400000 in
theorem sum_any {v : Value} {l : List Int} {w : World} (h : RdB w v l) (hl : Bts l) :
    Calls Tryd.prog 12 #[v] w fun e w' => e = .returned (.int .i64 (sumv l)) ∧ w' = w := by
  have HR := hide h
  obtain ⟨a, c, rfl, hc, hm⟩ := rdB_len h
  unfold maxLen at hm
  clear h
  generalize hn : l.length = n at *
  have HN := hide hn
  clear hn
  go_enter Tryd.func12, Tryd.ntmps12
  go_wp2_with fail
  go_loop [3, 4, 9] (fun p q i => ∃ k : Nat, k ≤ n ∧ i = .int .i64 k ∧ p = .int .i64 (sm (l.take k)).1 ∧ q = .int .i64 (sm (l.take k)).2) (fun _ _ i => n - (intOf i).toNat)
  case atStart => exact ⟨0, Nat.zero_le _, rfl, rfl, rfl⟩
  case round =>
    obtain ⟨k, hk, rfl, rfl, rfl⟩ := hrel
    have hb := sm_bd (l.take k)
    by_cases hlt : k < n
    · obtain ⟨b, o, rfl, _, hcell⟩ := rdB_at HR.out k (by rw [HN.out]; exact hlt)
      have hst := hide (sm_take (l := l) (k := k) (by rw [HN.out]; exact hlt))
      have hx := bts_get hl k
      generalize l.getD k 0 = x at *
      generalize hS : sm (l.take k) = S at *
      obtain ⟨A, C⟩ := S
      simp only at hb
      obtain ⟨⟨b1, b2⟩, ⟨b3, b4⟩, hbad⟩ := hb
      clear hbad
      obtain ⟨x1, x2⟩ := hx
      clear hS
      go_wp2
      go_round
      case rel => exact ⟨k + 1, by omega, by go_num, by rw [hst.out]; rfl, by rw [hst.out]; rfl⟩
      case measure => simp [intOf]; omega
    · have hfull : l.take k = l := List.take_of_length_le (by rw [HN.out]; omega)
      rw [hfull] at hb ⊢
      have hsv : Hid (sumv l = 65536 * (sm l).2 + (sm l).1) := rfl
      generalize sm l = S at *
      obtain ⟨A, C⟩ := S
      simp only at hb hsv
      obtain ⟨⟨b1, b2⟩, ⟨b3, b4⟩, hbad⟩ := hb
      clear hbad
      clear hfull
      go_wp2
      go_ret
      exact ⟨by rw [hsv.out]; rfl, rfl⟩

/-- A byte of a text, as it stands ahead of the cutting into words. -/
def sml (c : Int) : Int := if 65 ≤ c ∧ c ≤ 90 then c + 32 else if (97 ≤ c ∧ c ≤ 122) ∨ (48 ≤ c ∧ c ≤ 57) then c else 32

theorem sml_bd (c : Int) : 0 ≤ sml c ∧ sml c < 128 := by unfold sml; split <;> (try split) <;> omega

set_option maxHeartbeats 1000000 in
theorem small_any (c : Int) (w : World) (h0 : 0 ≤ c) (h1 : c < 256) : Calls Tryd.prog 24 #[.int .u8 c] w fun e w' => e = .returned (.int .u8 (sml c)) ∧ w' = w := by
  go_enter Tryd.func24, Tryd.ntmps24
  go_wp2
  all_goals go_ret
  all_goals refine ⟨?_, rfl⟩
  all_goals (congr 2; unfold sml)
  all_goals first | (rw [if_pos (by omega)]; first | rfl | omega | (simp; omega)) | (rw [if_neg (by omega), if_pos (by omega)]; first | rfl | omega) | (rw [if_neg (by omega), if_neg (by omega)]; first | rfl | omega)
end Go.Proofs.YtkncboinfcnklaaDoor
