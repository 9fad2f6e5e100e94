import Derived.Test.YtkncboinfcnklaaDoorP8
namespace Go.Proofs.YtkncboinfcnklaaDoor
open Go.RowKit Go.Deep Go.Proofs.YtkncboinfcnklaaDoor.Mth

set_option maxHeartbeats 400000 in
theorem isSeg_zero (a : Option Addr) (c : Nat) (w : World) : Calls Tryd.prog 8 #[.slice a 0 c] w fun e w' => e = .returned (.bool false) ∧ Below w.heap.size w w' := by
  go_enter Tryd.func8, Tryd.ntmps8
  go_wp2
  go_ret
  exact ⟨rfl, Below.refl _ _⟩

def segB (l : List Ent) : Bool := decide (1 ≤ l.length) && (List.range l.length).all (okAt l)
theorem seg_of {l : List Ent} (h : segB l = true) (h64 : l.length ≤ 64) : Seg l := by
  unfold segB at h
  rw [Bool.and_eq_true, List.all_eq_true] at h
  exact ⟨by simpa using h.1, h64, fun i hi => h.2 i (List.mem_range.2 hi)⟩
theorem segB_of {l : List Ent} (h : Seg l) : segB l = true := by
  unfold segB
  rw [Bool.and_eq_true, List.all_eq_true]
  exact ⟨by simpa using h.1, fun i hi => h.2.2 i (List.mem_range.1 hi)⟩

theorem isSeg_any (v : Value) (l : List Ent) (w : World) (h : RdE w v l) (h64 : l.length ≤ 64) : Calls Tryd.prog 8 #[v] w fun e w' => e = .returned (.bool (segB l)) ∧ Below w.heap.size w w' := by
  obtain ⟨a, c, rfl, _, _⟩ := rdE_len h
  by_cases h1 : 1 ≤ l.length
  · refine isSeg_core a c l w h h1 h64 (segB l) ?_
    show segB l = _
    unfold segB
    simp only [h1, decide_true, Bool.true_and]
  · have : l = [] := List.length_eq_zero_iff.1 (by omega)
    subst this
    exact isSeg_zero a c w

def body (l : List Ent) : List Int := hd l ++ idx l
/-- The bytes of a segment. -/
def pk (l : List Ent) : List Int := body l ++ num (sumv (body l)) 4

theorem ent_bts (e : Ent) : Bts (ent e) := bts_append (num_bts _ _) (bts_append (num_bts _ _) (bts_append (a := [_]) (bts_one (by omega) (by omega)) (tb_bts _)))
theorem ents_bts : ∀ l : List Ent, Bts (l.map ent).flatten
  | [] => bts_nil
  | e :: l => bts_append (ent_bts e) (ents_bts l)
theorem body_bts (l : List Ent) (h : l.length ≤ 64) : Bts (body l) := bts_append (bts_append (num_bts _ _) (ents_bts l)) (idx_bts l h)
theorem pk_bts (l : List Ent) (h : l.length ≤ 64) : Bts (pk l) := bts_append (body_bts l h) (num_bts _ _)

theorem ent_len {e : Ent} (h : e.text.size ≤ 60) : (ent e).length ≤ 77 := by
  unfold ent
  simp only [List.length_append, List.length_cons, num_len, tb_len]
  omega
theorem ents_len : ∀ (l : List Ent), (∀ e ∈ l, e.text.size ≤ 60) → (l.map ent).flatten.length ≤ 77 * l.length
  | [], _ => by simp
  | e :: l, h => by
    have h1 := ents_len l (fun x hx => h x (by simp [hx]))
    have h2 := ent_len (h e (by simp))
    simp only [List.map_cons, List.flatten_cons, List.length_append, List.length_cons]
    omega
theorem seg_text {l : List Ent} (h : Seg l) : ∀ e ∈ l, e.text.size ≤ 60 := by
  intro e he
  have := seg_ent h e he
  unfold isE at this
  simp only [Bool.and_eq_true, decide_eq_true_iff] at this
  exact this.2
theorem idxGo_len : ∀ (xs : List ByteArray) (Ls : List (List ByteArray)), Ls.length ≤ 64 → (∀ x ∈ xs, x.size ≤ 60) → (idxGo xs Ls).length ≤ 126 * xs.length
  | [], _, _, _ => by simp [idxGo]
  | x :: xs, Ls, h, hx => by
    have h1 := idxGo_len xs (rstTo Ls x Ls.length) (by rw [rstTo_len]; exact h) (fun y hy => hx y (by simp [hy]))
    have h2 := hx x (by simp)
    have h3 := havTo_len Ls x Ls.length
    simp only [idxGo, List.length_append, List.length_cons, tb_len]
    omega
theorem body_len {l : List Ent} (h : Seg l) : (body l).length ≤ 500000 := by
  have h1 := ents_len l (seg_text h)
  have h2 := idxGo_len (mw l) (ws l) (by simpa [ws] using h.2.1) (fun x hx => mw_size l (seg_text h) hx)
  have h3 := mw_len l (seg_text h)
  have h4 := h.2.1
  unfold body hd idx
  simp only [List.length_append, num_len]
  omega

theorem ents_take {l : List Ent} {k : Nat} (h : k < l.length) : ((l.take (k + 1)).map ent).flatten = ((l.take k).map ent).flatten ++ ent (l.getD k e0) := by
  rw [List.take_succ_eq_append_getElem h, List.map_append, List.flatten_append]
  simp [List.getD, h]

set_option maxRecDepth 100000 in
set_option maxHeartbeats 1000000 in
theorem pack_yes (v : Value) (l : List Ent) (w : World) (h : RdE w v l) (hT : Tab w) (hS : Seg l) :
    Calls Tryd.prog 5 #[v] w fun e w' => ∃ v', e = .returned (.tuple #[v', .int .i64 0]) ∧ CurB w w' v' (pk l) := by
  have CI := hide (isSeg_any v l w h hS.2.1)
  rw [segB_of hS] at CI
  have HS := hide hS
  have HE := hide h
  have HT := hide hT
  have h64 := hS.2.1
  have hs1 := hS.1
  obtain ⟨a, c, rfl, hc, hm⟩ := rdE_len h
  unfold maxLen at hm
  have HBL := hide (body_len hS)
  have HBB := hide (body_bts l h64)
  clear h hT hS
  generalize hn : l.length = n at *
  have HN := hide hn
  have hhd : Hid (hd l = num l.length 2 ++ (l.map ent).flatten) := rfl
  rw [hn] at hhd
  clear hn
  go_enter Tryd.func5, Tryd.ntmps5
  go_wp2_with fail
  refine CI.out.mono ?_
  rintro e w1 ⟨rfl, hb1⟩
  have HC0 : Hid (CurB w w1 (.slice none 0 0) []) := ⟨hb1, World.ownsRow_nil _ _ _ _⟩
  clear CI hb1
  go_wp2_with (first | (go_at_call 9; refine (appNum_any w w1 _ [] (n : Int) 2 HC0.out (by omega) (by omega) (by omega) (by simp)).mono ?_; rintro e w2 ⟨v2, rfl, hc2, hg2⟩; have HC2 := hide hc2; clear hc2 hg2))
  go_loopw [4, 15] (fun b i wr => ∃ k : Nat, k ≤ n ∧ i = .int .i64 k ∧ CurB w wr b (num n 2 ++ ((l.take k).map ent).flatten)) (fun _ i _ => n - (intOf i).toNat)
  case atStart => exact ⟨0, Nat.zero_le _, rfl, by simpa using HC2.out⟩
  case round =>
    obtain ⟨k, hk, rfl, hcb⟩ := hrel
    by_cases hlt : k < n
    · obtain ⟨b, o, rfl, hblt, c0, c1, c2⟩ := rdE_at HE.out k (by rw [HN.out]; exact hlt)
      have c0' := (hcb.1.cell (p := ⟨b, o + k * 3, none⟩) hblt).trans c0
      have c1' := (hcb.1.cell (p := ⟨b, o + k * 3 + 1, none⟩) hblt).trans c1
      have c2' := (hcb.1.cell (p := ⟨b, o + k * 3 + 2, none⟩) hblt).trans c2
      have hie : isE (l.getD k e0) = true := seg_ent HS.out _ (by rw [List.getD, List.getElem?_eq_getElem (by rw [HN.out]; exact hlt)]; exact List.getElem_mem _)
      have HTK := hide (ents_take (l := l) (k := k) (by rw [HN.out]; exact hlt))
      have hl1 : (num n 2 ++ ((l.take k).map ent).flatten).length ≤ 524288 := by
        have q1 := ents_len (l.take k) (fun e he => seg_text HS.out e (List.mem_of_mem_take he))
        rw [List.length_append, num_len]
        rw [List.length_take] at q1
        omega
      have HL1 := hide hl1
      clear hl1
      generalize l.getD k e0 = e at *
      have HIE := hide hie
      clear hie
      have CA := hide (fun (W : World) (hW : CurB w W u4 (num n 2 ++ ((l.take k).map ent).flatten)) => appEntry_any w W u4 _ e hW HL1.out HIE.out)
      obtain ⟨s, t, x⟩ := e
      simp only at c0' c1' c2'
      have HCB := hide hcb
      clear hcb c0 c1 c2
      go_wp2_with fail
      refine (CA.out _ (curB_below HCB.out (below_alloc wr _))).mono ?_
      rintro r w3 ⟨v3, rfl, hc3, _⟩
      have HC3 := hide hc3
      clear hc3 CA
      go_wp2
      go_roundw
      case rel => exact ⟨k + 1, by omega, by go_num, by rw [HTK.out, ← List.append_assoc]; exact HC3.out⟩
      case measure => simp [intOf]; omega
    · have hke : k = n := by omega
      subst hke
      rw [List.take_of_length_le (by rw [HN.out]; exact Nat.le_refl _), ← hhd.out] at hcb
      have hl2 : (hd l).length ≤ 5000 := by
        have q1 := ents_len l (seg_text HS.out)
        have := HN.out
        rw [hhd.out, List.length_append, num_len]
        omega
      have CX := hide (appIndex_any w wr _ _ (hd l) l hcb HE.out HT.out (by rw [HN.out]; exact hs1) (by rw [HN.out]; exact h64) (seg_text HS.out) hl2)
      clear hcb hl2
      go_wp2_with fail
      refine CX.out.mono ?_
      rintro e w5 ⟨v5, rfl, hc5⟩
      have HC5 : Hid (CurB w w5 v5 (body l)) := hc5
      have CS := hide (sum_any (rdB_own HC5.out.2) HBB.out)
      have hsb := sumv_bd (body l)
      clear hc5 CX
      go_wp2_with fail
      refine CS.out.mono ?_
      rintro e w6 ⟨rfl, hw6⟩
      rw [hw6]
      clear hw6 w6 CS
      have hpk : Hid (pk l = body l ++ num (sumv (body l)) 4) := rfl
      generalize sumv (body l) = S at *
      have CN := hide (appNum_any w w5 v5 (body l) S 4 HC5.out hsb.1 (by omega) (by omega) (by have := HBL.out; omega))
      go_wp2_with fail
      refine CN.out.mono ?_
      rintro e w7 ⟨v7, rfl, hc7, _⟩
      have HC7 := hide hc7
      clear hc7 CN
      go_wp2
      go_ret2
      exact ⟨_, rfl, by rw [hpk.out]; exact HC7.out⟩

set_option maxHeartbeats 400000 in
theorem pack_no (v : Value) (l : List Ent) (w : World) (h : RdE w v l) (h64 : l.length ≤ 64) (hS : segB l = false) :
    Calls Tryd.prog 5 #[v] w fun e w' => e = .returned (.tuple #[.slice none 0 0, .int .i64 2]) ∧ Below w.heap.size w w' := by
  have CI := hide (isSeg_any v l w h h64)
  rw [hS] at CI
  clear h hS
  go_enter Tryd.func5, Tryd.ntmps5
  go_wp2_with fail
  refine CI.out.mono ?_
  rintro e w1 ⟨rfl, hb1⟩
  have HB := hide hb1
  clear hb1 CI
  go_wp2
  go_ret2
  exact ⟨rfl, HB.out⟩
end Go.Proofs.YtkncboinfcnklaaDoor
