import Derived.Test.YtkncboinfcnklaaDoorP13
namespace Go.Proofs.YtkncboinfcnklaaDoor
open Go.RowKit Go.Deep Go.Proofs.YtkncboinfcnklaaDoor.Mth

theorem bytesOf_back {l : List Int} (h : Bts l) : (Lib.bytesOf l).map (fun u => (u.toNat : Int)) = l := by
  unfold Lib.bytesOf
  rw [List.map_map]
  conv => rhs; rw [← List.map_id l]
  apply List.map_congr_left
  intro x hx
  have := h x hx
  simp
  omega
theorem eqB {xs ys : List Int} (hx : Bts xs) (hy : Bts ys) : (Lib.bytesOf xs == Lib.bytesOf ys) = decide (xs = ys) := by
  by_cases h : xs = ys
  · subst h; simp
  · rw [decide_eq_false h, beq_eq_false_iff_ne]
    intro e
    exact h (by rw [← bytesOf_back hx, e, bytesOf_back hy])

theorem equal_any {v1 v2 : Value} {xs ys : List Int} {w : World} (h1 : RdB w v1 xs) (h2 : RdB w v2 ys) (hx : Bts xs) (hy : Bts ys) : Calls Tryd.prog 14 #[v1, v2] w fun e w' => e = .returned (.bool (decide (xs = ys))) ∧ w' = w := by
  rw [← eqB hx hy]
  exact Any.bytes_Equal { Tryd.laysEqual with } v1 v2 xs ys w (conv_any h1) (conv_any h2)

theorem rdAll_len (l : List Int) : (rdAll l).length ≤ 64 := by unfold rdAll; rw [rdEnts_len]; omega

theorem curE_below {w0 w w' : World} {v : Value} {l : List Ent} (h : CurE w0 w v l) (hb : Below w.heap.size w w') : CurE w0 w' v l :=
  ⟨h.1.trans (hb.mono h.1.size), h.2.kept (row := none) ⟨hb.os, hb.tape, hb.output, hb.size, fun k hk _ => hb.block k hk⟩ (by cases v.ownBlock <;> simp)⟩

set_option maxRecDepth 100000 in
set_option maxHeartbeats 1000000 in
theorem unpack_yes (v : Value) (l : List Int) (w : World) (h : RdB w v l) (hl : Bts l) (hT : Tab w) (hS : Seg (rdAll l)) (hp : pk (rdAll l) = l) :
    Calls Tryd.prog 6 #[v] w fun e w' => ∃ v', e = .returned (.tuple #[v', .int .i64 0]) ∧ CurE w w' v' (rdAll l) := by
  have CR := hide (readE_any v l w h hl)
  have HB := hide h
  have HT := hide hT
  have HP := hide hp
  have HS := hide hS
  clear h hT hp hS
  go_enter Tryd.func6, Tryd.ntmps6
  go_wp2_with fail
  refine CR.out.mono ?_
  rintro e w1 ⟨v1, rfl, hc1⟩
  have HC1 := hide hc1
  have CP := hide (pack_yes v1 (rdAll l) w1 (rdE_own hc1.2) (HT.out.below hc1.1 (Nat.le_refl _)) HS.out)
  clear hc1 CR
  go_wp2_with fail
  refine CP.out.mono ?_
  rintro e w2 ⟨v2, rfl, hc2⟩
  have HC2 := hide (curE_below HC1.out hc2.1)
  have CE := hide (equal_any (rdB_own hc2.2) (HB.out.below HC2.out.1) (by rw [HP.out]; exact hl) hl)
  rw [decide_eq_true HP.out] at CE
  clear hc2 CP
  go_wp2_with fail
  refine CE.out.mono ?_
  rintro e w3 ⟨rfl, hw3⟩
  rw [hw3]
  clear hw3 w3 CE
  go_wp2
  go_ret2
  exact ⟨_, rfl, HC2.out⟩

set_option maxRecDepth 100000 in
set_option maxHeartbeats 1000000 in
theorem unpack_no1 (v : Value) (l : List Int) (w : World) (h : RdB w v l) (hl : Bts l) (hS : segB (rdAll l) = false) :
    Calls Tryd.prog 6 #[v] w fun e w' => e = .returned (.tuple #[.slice none 0 0, .int .i64 2]) ∧ Below w.heap.size w w' := by
  have CR := hide (readE_any v l w h hl)
  have HS := hide hS
  clear h hS
  go_enter Tryd.func6, Tryd.ntmps6
  go_wp2_with fail
  refine CR.out.mono ?_
  rintro e w1 ⟨v1, rfl, hc1⟩
  have HC1 := hide hc1
  have CP := hide (pack_no v1 (rdAll l) w1 (rdE_own hc1.2) (rdAll_len l) HS.out)
  clear hc1 CR
  go_wp2_with fail
  refine CP.out.mono ?_
  rintro e w2 ⟨rfl, hb2⟩
  have HB2 := hide (HC1.out.1.trans (hb2.mono HC1.out.1.size))
  clear hb2 CP
  go_wp2
  go_ret2
  exact ⟨rfl, HB2.out⟩

set_option maxRecDepth 100000 in
set_option maxHeartbeats 1000000 in
theorem unpack_no2 (v : Value) (l : List Int) (w : World) (h : RdB w v l) (hl : Bts l) (hT : Tab w) (hS : Seg (rdAll l)) (hp : pk (rdAll l) ≠ l) :
    Calls Tryd.prog 6 #[v] w fun e w' => e = .returned (.tuple #[.slice none 0 0, .int .i64 2]) ∧ Below w.heap.size w w' := by
  have CR := hide (readE_any v l w h hl)
  have HB := hide h
  have HT := hide hT
  have HP := hide hp
  have HS := hide hS
  clear h hT hp hS
  go_enter Tryd.func6, Tryd.ntmps6
  go_wp2_with fail
  refine CR.out.mono ?_
  rintro e w1 ⟨v1, rfl, hc1⟩
  have HC1 := hide hc1
  have CP := hide (pack_yes v1 (rdAll l) w1 (rdE_own hc1.2) (HT.out.below hc1.1 (Nat.le_refl _)) HS.out)
  clear hc1 CR
  go_wp2_with fail
  refine CP.out.mono ?_
  rintro e w2 ⟨v2, rfl, hc2⟩
  have HC2 := hide (curE_below HC1.out hc2.1)
  have CE := hide (equal_any (rdB_own hc2.2) (HB.out.below HC2.out.1) (pk_bts _ HS.out.2.1) hl)
  rw [decide_eq_false HP.out] at CE
  clear hc2 CP
  go_wp2_with fail
  refine CE.out.mono ?_
  rintro e w3 ⟨rfl, hw3⟩
  rw [hw3]
  clear hw3 w3 CE
  go_wp2
  go_ret2
  exact ⟨rfl, HC2.out.1⟩

/-- Whether these bytes are a segment. -/
def isPk (l : List Int) : Prop := Seg (rdAll l) ∧ pk (rdAll l) = l

theorem unpack_any (v : Value) (l : List Int) (w : World) (h : RdB w v l) (hl : Bts l) (hT : Tab w) :
    Calls Tryd.prog 6 #[v] w fun e w' => (isPk l ∧ ∃ v', e = .returned (.tuple #[v', .int .i64 0]) ∧ CurE w w' v' (rdAll l)) ∨ (¬ isPk l ∧ e = .returned (.tuple #[.slice none 0 0, .int .i64 2]) ∧ Below w.heap.size w w') := by
  cases hS : segB (rdAll l) with
  | false => exact (unpack_no1 v l w h hl hS).mono fun e w' q => Or.inr ⟨(fun k => by rw [segB_of k.1] at hS; exact Bool.noConfusion hS), q⟩
  | true =>
    have hS' := seg_of hS (rdAll_len l)
    by_cases hp : pk (rdAll l) = l
    · exact (unpack_yes v l w h hl hT hS' hp).mono fun e w' q => Or.inl ⟨⟨hS', hp⟩, q⟩
    · exact (unpack_no2 v l w h hl hT hS' hp).mono fun e w' q => Or.inr ⟨fun k => hp k.2, q⟩

/-- What Pack made is a segment. -/
theorem pk_is {l : List Ent} (h : Seg l) : rdAll (pk l) = l ∧ isPk (pk l) := by
  have e : rdAll (pk l) = l := by
    unfold pk body
    rw [List.append_assoc]
    exact rd_hd h _
  exact ⟨e, by unfold isPk; rw [e]; exact ⟨h, rfl⟩⟩
/-- With a byte less there is none. -/
theorem pk_less {l : List Ent} (h : Seg l) : ¬ isPk ((pk l).take ((pk l).length - 1)) := by
  have hlen : (pk l).length = (body l).length + 4 := by unfold pk; rw [List.length_append, num_len]
  have e : rdAll ((pk l).take ((pk l).length - 1)) = l := by
    rw [hlen]
    unfold pk
    rw [List.take_append, List.take_of_length_le (by omega)]
    unfold body
    rw [List.append_assoc]
    exact rd_hd h _
  rintro ⟨_, k⟩
  rw [e] at k
  have := congrArg List.length k
  rw [List.length_take] at this
  omega
/-- With a byte more there is none. -/
theorem pk_more {l : List Ent} (h : Seg l) (x : Int) : ¬ isPk (pk l ++ [x]) := by
  have e : rdAll (pk l ++ [x]) = l := by
    unfold pk body
    rw [List.append_assoc, List.append_assoc]
    exact rd_hd h _
  rintro ⟨_, k⟩
  rw [e] at k
  have := congrArg List.length k
  simp at this
/-- With a byte that is another there is none. -/
theorem pk_other {l : List Ent} (h : Seg l) (i : Nat) (v : Int) (h0 : 0 ≤ v) (h1 : v < 256) (hi : i < (pk l).length) (hv : v ≠ (pk l).getD i 0) : ¬ isPk ((pk l).set i v) := by
  rintro ⟨hS, k⟩
  refine pk_set (A := body l) (B := body (rdAll ((pk l).set i v))) (body_bts l h.2.1) i v h0 h1 hi ?_ rfl rfl k
  intro e
  apply hv
  rw [e, List.getD, List.getElem?_eq_getElem hi]
  rfl
end Go.Proofs.YtkncboinfcnklaaDoor
