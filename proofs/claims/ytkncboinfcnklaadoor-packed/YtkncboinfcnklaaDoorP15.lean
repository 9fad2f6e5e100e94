import Derived.Test.YtkncboinfcnklaaDoorP14
namespace Go.Proofs.YtkncboinfcnklaaDoor
open Go.RowKit Go.Deep Go.Proofs.YtkncboinfcnklaaDoor.Mth

theorem okAt_old {l : List Ent} {e : Ent} {i : Nat} (h : i < l.length) : okAt (l ++ [e]) i = okAt l i := by
  unfold okAt
  have h1 : (l ++ [e]).getD i e0 = l.getD i e0 := by simp [List.getD, List.getElem?_append_left h]
  have h2 : (l ++ [e]).getD (i - 1) e0 = l.getD (i - 1) e0 := by simp [List.getD, List.getElem?_append_left (show i - 1 < l.length by omega)]
  rw [h1, h2]
theorem okAt_new {l : List Ent} {e : Ent} : okAt (l ++ [e]) l.length = (isE e && (decide (l.length = 0) || fol e (l.getD (l.length - 1) e0))) := by
  unfold okAt
  have h1 : (l ++ [e]).getD l.length e0 = e := by simp [List.getD]
  rw [h1]
  by_cases c : l.length = 0
  · simp [c]
  · have h2 : (l ++ [e]).getD (l.length - 1) e0 = l.getD (l.length - 1) e0 := by simp [List.getD, List.getElem?_append_left (show l.length - 1 < l.length by omega)]
    rw [h2]

/-- A segment under way. -/
def Upto (l : List Ent) (S T : Int) : Prop := 0 ≤ S ∧ S ≤ 1000000 * l.length ∧ 0 ≤ T ∧ T ≤ 1000000 * l.length ∧ (∀ i, i < l.length → okAt l i = true) ∧ (l.length = 0 ∨ (l.getD (l.length - 1) e0).seq = S - 1 ∧ (l.getD (l.length - 1) e0).time = T)

theorem upto_next {l : List Ent} {S T p q : Int} {x : ByteArray} (h : Upto l S T) (hl : l.length ≤ 64) (hp0 : 0 ≤ p) (hp : p < 1000000) (hq0 : 0 ≤ q) (hq : q < 1000000) (hx : x.size ≤ 60) : Upto (l ++ [⟨S + p, T + q, x⟩]) (S + 1 + p) (T + q) := by
  obtain ⟨h1, h2, h3, h4, h5, h6⟩ := h
  have hlen : (l ++ [(⟨S + p, T + q, x⟩ : Ent)]).length = l.length + 1 := by simp
  refine ⟨by omega, by rw [hlen]; omega, by omega, by rw [hlen]; omega, fun i hi => ?_, Or.inr ?_⟩
  · rw [hlen] at hi
    by_cases c : i < l.length
    · rw [okAt_old c]; exact h5 i c
    · have : i = l.length := by omega
      subst this
      rw [okAt_new]
      have hE : isE ⟨S + p, T + q, x⟩ = true := by
        unfold isE
        simp only [Bool.and_eq_true, decide_eq_true_iff]
        refine ⟨⟨⟨⟨?_, ?_⟩, ?_⟩, ?_⟩, ?_⟩ <;> first | exact hx | omega
      rw [hE, Bool.true_and, Bool.or_eq_true]
      rcases h6 with h6 | ⟨h6, h7⟩
      · exact Or.inl (by simpa using h6)
      · refine Or.inr ?_
        unfold fol
        rw [h6, h7]
        simp only [Bool.and_eq_true, decide_eq_true_iff]
        omega
  · rw [hlen, Nat.add_sub_cancel]
    have : (l ++ [(⟨S + p, T + q, x⟩ : Ent)]).getD l.length e0 = ⟨S + p, T + q, x⟩ := by simp [List.getD]
    rw [this]
    exact ⟨by show S + p = S + 1 + p - 1; omega, rfl⟩

theorem upto_seg {l : List Ent} {S T : Int} (h : Upto l S T) (h1 : 1 ≤ l.length) (h64 : l.length ≤ 64) : Seg l := ⟨h1, h64, h.2.2.2.2.1⟩

def WfE (l : List Ent) : Prop := ∀ j, j < l.length → (-9223372036854775808 ≤ (l.getD j e0).seq ∧ (l.getD j e0).seq < 9223372036854775808) ∧ (-9223372036854775808 ≤ (l.getD j e0).time ∧ (l.getD j e0).time < 9223372036854775808) ∧ (l.getD j e0).text.size ≤ 9223372036854775807

theorem seg_one : Seg [⟨0, 0, ⟨#[111, 110, 101]⟩⟩] := by
  refine ⟨by simp, by simp, fun i hi => ?_⟩
  have : i = 0 := by simpa using hi
  subst this
  decide

set_option maxRecDepth 100000 in
set_option maxHeartbeats 2000000 in
theorem entries_any (v : Value) (raw : List Ent) (w : World) (h : RdE w v raw) (hw : WfE raw) :
    Calls Tryd.prog 4 #[v] w fun e w' => ∃ v' l, e = .returned v' ∧ CurE w w' v' l ∧ Seg l := by
  have HE := hide h
  have HW := hide hw
  obtain ⟨a, c, rfl, hc, hm⟩ := rdE_len h
  unfold maxLen at hm
  obtain ⟨i0, hi0, hz0, hz1, hz2⟩ := info_parts Tryd.info31
  clear h hw
  generalize hn : raw.length = n at *
  have HN := hide hn
  clear hn
  go_enter Tryd.func4, Tryd.ntmps4
  go_wp2_with fail
  go_loopw [3, 4, 5, 6] (fun b s t i wr => ∃ (k : Nat) (l : List Ent) (S T : Int), k ≤ n ∧ k ≤ 64 ∧ i = .int .i64 k ∧ s = .int .i64 S ∧ t = .int .i64 T ∧ CurE w wr b l ∧ l.length = k ∧ Upto l S T) (fun _ _ _ i _ => n - (intOf i).toNat)
  case atStart => exact ⟨0, [], 0, 0, Nat.zero_le _, Nat.zero_le _, rfl, rfl, rfl, ⟨Below.refl _ _, World.ownsRow_nil _ _ _ _⟩, rfl, by omega, by simp, by omega, by simp, fun i hi => absurd hi (Nat.not_lt_zero _), Or.inl rfl⟩
  case round =>
    obtain ⟨k, l, S, T, hk, hk64, rfl, rfl, rfl, hcur, hlen, hup⟩ := hrel
    have HUP := hide hup
    obtain ⟨hS0, hS1, hT0, hT1, _⟩ := hup
    rw [hlen] at hS1 hT1
    by_cases hlt : k < n
    · by_cases hlt2 : k < 64
      · obtain ⟨b, o, rfl, hblt, c0, c1, c2⟩ := rdE_at HE.out k (by rw [HN.out]; exact hlt)
        have hwk := HW.out k (by rw [HN.out]; exact hlt)
        have c0' := (hcur.1.cell (p := ⟨b, o + k * 3, none⟩) hblt).trans c0
        have c1' := (hcur.1.cell (p := ⟨b, o + k * 3 + 1, none⟩) hblt).trans c1
        have c2' := (hcur.1.cell (p := ⟨b, o + k * 3 + 2, none⟩) hblt).trans c2
        generalize raw.getD k e0 = e at *
        obtain ⟨s, t, x⟩ := e
        simp only at c0' c1' c2' hwk
        obtain ⟨⟨hs1, hs2⟩, ⟨ht1, ht2⟩, hx⟩ := hwk
        have HC := hide hcur
        have hsz := hcur.1.size
        clear hcur c0 c1 c2
        have P1 := hide (pick_any s 1000000 wr hs1 hs2 (by omega) (by omega))
        have P2 := hide (pick_any t 1000000 wr ht1 ht2 (by omega) (by omega))
        go_wp2_with fail
        refine P1.out.mono ?_
        rintro e w1 ⟨⟨p, hp0, hp1, rfl⟩, hw1⟩
        rw [hw1]
        clear hw1 w1 P1
        go_wp2_with fail
        refine P2.out.mono ?_
        rintro e w1 ⟨⟨q, hq0, hq1, rfl⟩, hw1⟩
        rw [hw1]
        clear hw1 w1 P2
        by_cases hxs : x.size ≤ 60
        · have hxi : ¬ (60 : Int) < (x.size : Int) := by omega
          have hxd : decide ((60 : Int) < (x.size : Int)) = false := decide_eq_false hxi
          go_wp2_with (first | (at_builtin; refine wpList_append_own _ rfl (.tmp 45) (.tmp 51) 22 rfl w.heap.size 31 i0 (.agg #[.int .i64 0, .int .i64 0, .string ByteArray.empty]) 3 32 Tryd.underlying22 hi0 hz0 hz1 hz2 rfl (by decide) _ _ _ rfl (HC.out.2.alloc _) ⟨wr.heap.size, 0, none⟩ 1 1 [.int .i64 (S + 1 + p - 1), .int .i64 (T + q), .string x] rfl rfl (cell_three_new _ _ _ _ _) (by intro u hu; simp at hu; rcases hu with rfl | rfl | rfl <;> rfl) (by unfold maxLen; omega) (by omega) (by simp; omega) ?_; intro v4 w4 hown4 hgrow4 _; have HC4 := hide (curE_append (e := ⟨S + 1 + p - 1, T + q, x⟩) HC.out hown4 hgrow4); clear hown4 hgrow4))
          go_roundw
          case rel =>
            refine ⟨k + 1, l ++ [⟨S + 1 + p - 1, T + q, x⟩], S + 1 + p, T + q, by omega, by omega, by go_num, rfl, rfl, HC4.out, by simp [hlen], ?_⟩
            have := upto_next HUP.out (by omega) hp0 hp1 hq0 hq1 (x := x) hxs
            rw [show S + 1 + p - 1 = S + p by omega]
            exact this
          case measure => simp [intOf]; omega
        · have hxi : (60 : Int) < (x.size : Int) := by omega
          have hxd : decide ((60 : Int) < (x.size : Int)) = true := decide_eq_true hxi
          have hxz : (x.extract 0 60).size ≤ 60 := by simp [ByteArray.size_extract]; omega
          go_wp2_with (first | (at_builtin; refine wpList_append_own _ rfl (.tmp 45) (.tmp 51) 22 rfl w.heap.size 31 i0 (.agg #[.int .i64 0, .int .i64 0, .string ByteArray.empty]) 3 32 Tryd.underlying22 hi0 hz0 hz1 hz2 rfl (by decide) _ _ _ rfl (HC.out.2.alloc _) ⟨wr.heap.size, 0, none⟩ 1 1 [.int .i64 (S + 1 + p - 1), .int .i64 (T + q), .string (x.extract 0 60)] rfl rfl (cell_three_new _ _ _ _ _) (by intro u hu; simp at hu; rcases hu with rfl | rfl | rfl <;> rfl) (by unfold maxLen; omega) (by omega) (by simp; omega) ?_; intro v4 w4 hown4 hgrow4 _; have HC4 := hide (curE_append (e := ⟨S + 1 + p - 1, T + q, (x.extract 0 60)⟩) HC.out hown4 hgrow4); clear hown4 hgrow4))
          go_roundw
          case rel =>
            refine ⟨k + 1, l ++ [⟨S + 1 + p - 1, T + q, (x.extract 0 60)⟩], S + 1 + p, T + q, by omega, by omega, by go_num, rfl, rfl, HC4.out, by simp [hlen], ?_⟩
            have := upto_next HUP.out (by omega) hp0 hp1 hq0 hq1 (x := (x.extract 0 60)) hxz
            rw [show S + 1 + p - 1 = S + p by omega]
            exact this
          case measure => simp [intOf]; omega
      · have hke : k = 64 := by omega
        subst hke
        have HC := hide hcur
        have hne : (l.length : Int) ≠ 0 := by omega
        have hne2 : ((l.length : Int) == 0) = false := by simpa using hne
        have hsl := rdE_len (rdE_own hcur.2)
        obtain ⟨a1, c1, rfl, _, _⟩ := hsl
        clear hcur
        go_wp2
        go_ret
        exact ⟨_, l, rfl, (by have := HC.out; first | exact this | (rw [hlen] at this; exact this)), upto_seg HUP.out (by omega) (by omega)⟩
    · have hke : k = n := by omega
      subst hke
      by_cases hz : k = 0
      · subst hz
        have hl0 : l = [] := List.length_eq_zero_iff.1 hlen
        subst hl0
        have HC := hide hcur
        have hsz := hcur.1.size
        have hsl := rdE_len (rdE_own hcur.2)
        obtain ⟨a1, c1, rfl, _, _⟩ := hsl
        clear hcur
        go_wp2_with (first | (at_builtin; refine wpList_append_own _ rfl (.tmp 56) (.tmp 58) 22 rfl w.heap.size 31 i0 (.agg #[.int .i64 0, .int .i64 0, .string ByteArray.empty]) 3 32 Tryd.underlying22 hi0 hz0 hz1 hz2 rfl (by decide) _ _ _ rfl (HC.out.2.alloc _) ⟨wr.heap.size, 0, none⟩ 1 1 [.int .i64 0, .int .i64 0, .string ⟨#[111, 110, 101]⟩] rfl rfl (cell_three_new _ _ _ _ _) (by intro u hu; simp at hu; rcases hu with rfl | rfl | rfl <;> rfl) (by unfold maxLen; simp) (by simp) (by simp; omega) ?_; intro v4 w4 hown4 hgrow4 _; have HC4 := hide (curE_append (e := ⟨0, 0, ⟨#[111, 110, 101]⟩⟩) HC.out hown4 hgrow4); clear hown4 hgrow4))
        go_ret
        exact ⟨_, _, rfl, HC4.out, seg_one⟩
      · have HC := hide hcur
        have hne : (l.length : Int) ≠ 0 := by omega
        have hne2 : ((l.length : Int) == 0) = false := by simpa using hne
        have hsl := rdE_len (rdE_own hcur.2)
        obtain ⟨a1, c1, rfl, _, _⟩ := hsl
        clear hcur
        go_wp2
        go_ret
        exact ⟨_, l, rfl, (by have := HC.out; first | exact this | (rw [hlen] at this; exact this)), upto_seg HUP.out (by omega) (by omega)⟩
end Go.Proofs.YtkncboinfcnklaaDoor
