import Derived.Test.YtkncboinfcnklabGreatDoorQ8
import Derived.Laws.EntriesVeiled
namespace Go.Proofs.YtkncboinfcnklabGreatDoor
open Go.RowKit Go.Deep Go.Proofs.YtkncboinfcnklabGreatDoor.Mth

theorem filter_drop {α : Type} (p : α → Bool) (z : α) : ∀ (l : List α) (k : Nat), k ≤ l.length → (∀ i, i < k → p (l.getD i z) = false) → (∀ i, k ≤ i → i < l.length → p (l.getD i z) = true) → l.filter p = l.drop k
  | [], k, _, _, _ => by simp
  | a :: l, 0, _, _, h2 => by
    rw [List.drop_zero, List.filter_eq_self]
    intro b hb
    obtain ⟨i, hi, rfl⟩ := List.mem_iff_getElem.1 hb
    have := h2 i (Nat.zero_le _) hi
    rwa [show (a :: l).getD i z = (a :: l)[i] by rw [List.getD, List.getElem?_eq_getElem hi]; rfl] at this
  | a :: l, k + 1, hk, h1, h2 => by
    have ha := h1 0 (by omega)
    rw [List.filter_cons_of_neg (by simpa using ha), List.drop_succ_cons]
    exact filter_drop p z l k (by simpa using hk) (fun i hi => by simpa using h1 (i + 1) (by omega)) (fun i hi hl => by simpa using h2 (i + 1) (by omega) (by simpa using hl))
/-- The entries that have a word, from a place on, the first ones of them. -/
def flw (es : List Ent) (x : ByteArray) (place : Int) (most : Nat) : List Ent := (es.filter (fun e => memD x (wd e.text) && decide (place ≤ e.seq))).take most
/-- Sequence numbers do not fall. -/
def Sqs (es : List Ent) : Prop := ∀ i j, i ≤ j → j < es.length → (es.getD i e0).seq ≤ (es.getD j e0).seq
theorem hasUp_map (es : List Ent) (x : ByteArray) : (hasUp es x es.length).map (fun i => es.getD i.toNat e0) = es.filter (fun e => memD x (wd e.text)) := by
  unfold hasUp
  rw [List.map_map, ← range_map es e0]
  congr 1
theorem hasUp_up (es : List Ent) (x : ByteArray) : (hasUp es x es.length).Pairwise (fun a b : Int => a < b) := by
  unfold hasUp
  rw [List.pairwise_map]
  refine List.Pairwise.imp (fun h => by omega) (List.Pairwise.filter _ List.pairwise_lt_range)
theorem flw_eq {es : List Ent} {x : ByteArray} {place : Int} {most k : Nat} (hk : k ≤ (hasUp es x es.length).length)
    (h1 : ∀ i, i < k → decide (place ≤ (es.getD ((hasUp es x es.length).getD i 0).toNat e0).seq) = false) (h2 : ∀ i, k ≤ i → i < (hasUp es x es.length).length → decide (place ≤ (es.getD ((hasUp es x es.length).getD i 0).toNat e0).seq) = true) :
    (((hasUp es x es.length).drop k).take most).map (fun i => es.getD i.toNat e0) = flw es x place most := by
  unfold flw
  have hg : ∀ i, i < (hasUp es x es.length).length → ((hasUp es x es.length).map (fun i => es.getD i.toNat e0)).getD i e0 = es.getD ((hasUp es x es.length).getD i 0).toNat e0 := by
    intro i hi
    simp [List.getD, hi]
  have := filter_drop (fun e : Ent => decide (place ≤ e.seq)) e0 ((hasUp es x es.length).map (fun i => es.getD i.toNat e0)) k (by rw [List.length_map]; exact hk) (fun i hi => by rw [hg i (by omega)]; exact h1 i hi) (fun i hi hl => by rw [List.length_map] at hl; rw [hg i hl]; exact h2 i hi hl)
  rw [List.map_take, List.map_drop, ← this, hasUp_map, List.filter_filter]
  congr 1
  apply List.filter_congr
  intro e _
  rw [Bool.and_comm]

set_option maxRecDepth 100000 in
set_option maxHeartbeats 4000000 in
theorem follow_any {w : World} {B s mb : Nat} {es : List Ent} {ev : Value} (h : SegAt w B s es ev mb) (x : ByteArray) (hx : x.size ≤ maxLen) (place : Int) (most : Nat) (hmost : most ≤ 100) (hl : es.length ≤ 1048576) (hq : Sqs es) :
    Calls Tryz.prog 93 #[.pointer (some ⟨s, 0, none⟩), .string x, .int .i64 place, .int .i64 (most : Int)] w fun e w' => ∃ v, e = .returned v ∧ CurE w w' v (flw es x place most) := by
  obtain ⟨i0, hi0, hz0, hz1, hz2⟩ := info_parts Tryz.info49
  obtain ⟨a, c, rfl, hc, hm⟩ := own_slice h.own
  obtain ⟨W0, hW0⟩ : ∃ W0, W0 = (w.alloc (Obj.cells #[.pointer (some ⟨s, 0, none⟩)] 70)).alloc (Obj.cells #[.int .i64 place] 3) := ⟨_, rfl⟩
  have hb0 : Below w.heap.size w W0 := by
    rw [hW0]
    have b1 := below_allocG w (Obj.cells #[.pointer (some ⟨s, 0, none⟩)] 70)
    exact b1.trans ((below_allocG _ _).mono b1.size)
  have hs0 : W0.heap.size = w.heap.size + 1 + 1 := by rw [hW0]; simp
  have kx0 : W0.heap[w.heap.size]? = some (Obj.cells #[.pointer (some ⟨s, 0, none⟩)] 70 (0, 0)) := by rw [hW0]; exact old_blk _ (new_blk w _ _)
  have kz0 : W0.heap[w.heap.size + 1]? = some (Obj.cells #[.int .i64 place] 3 (0, 0)) := by
    rw [hW0]
    have := new_blk (w.alloc (Obj.cells #[.pointer (some ⟨s, 0, none⟩)] 70)) #[.int .i64 place] 3
    rwa [World.size_alloc] at this
  have hS0 := h.below hb0
  obtain ⟨T, hlook, hT, hup, hlst⟩ := hS0.idx.look x hx
  obtain ⟨u, hu⟩ := WI.ptr_pointer T
  rw [hu] at hlook
  obtain ⟨q1, _⟩ := cell_of (j := 1) (u := .map (some mb)) hS0.blk rfl
  -- the set, the closure's box
  obtain ⟨fv, hfv⟩ : ∃ fv, fv = Value.func (.func 115) #[] #[.pointer (some ⟨w.heap.size + 1 + 1, 0, none⟩)] := ⟨_, rfl⟩
  obtain ⟨W, hW⟩ : ∃ W, W = (W0.alloc (Obj.cells #[.pointer u] 128)).alloc (Obj.cells #[fv] 188) := ⟨_, rfl⟩
  have hb1 : Below W0.heap.size W0 W := by
    rw [hW]
    have b1 := below_allocG W0 (Obj.cells #[.pointer u] 128)
    exact b1.trans ((below_allocG _ _).mono b1.size)
  have hset : WI.SetAt W (w.heap.size + 1 + 1) T := by
    rw [hW, ← hs0]
    obtain ⟨d1, d2⟩ := cell_of (j := 0) (u := .pointer u) (old_blk (Obj.cells #[fv] 188) (new_blk W0 #[.pointer u] 128)) rfl
    exact ⟨by rw [hu]; exact d1, d2, InT.below (by rw [hW] at hb1; exact hb1) hT, hup⟩
  have ky : W.cell? ⟨w.heap.size + 1 + 1 + 1, 0, none⟩ = some fv := by
    have := new_blk (W0.alloc (Obj.cells #[.pointer u] 128)) #[fv] 188
    rw [World.size_alloc, hs0] at this
    rw [hW]
    exact (cell_of (j := 0) this rfl).1
  have kx := (cell_of (j := 0) (u := .pointer (some ⟨s, 0, none⟩)) ((hb1.block _ (Array.getElem?_eq_some_iff.1 kx0).1).trans kx0) rfl).1
  have kz := (cell_of (j := 0) (u := .int .i64 place) ((hb1.block _ (Array.getElem?_eq_some_iff.1 kz0).1).trans kz0) rfl).1
  have hS := hS0.below hb1
  have HB := hide (hb0.trans (hb1.mono hb0.size))
  have hlen : (lst T).length ≤ es.length := by rw [hlst]; exact hasUp_len es x _
  have hin : ∀ i, i < (lst T).length → ∃ j : Nat, j < es.length ∧ (lst T).getD i 0 = (j : Int) := fun i hi => hasUp_lt (x := x) (by have := getDmem (z := (0 : Int)) hi; rw [hlst] at this; rw [hlst]; exact this)
  have hmono : ∀ i j, i ≤ j → j < (lst T).length → (lst T).getD i 0 ≤ (lst T).getD j 0 := by
    intro i j hij hj
    rcases Nat.eq_or_lt_of_le hij with e | e
    · rw [e]; exact Int.le_refl _
    · have := List.pairwise_iff_getElem.1 hup i j (by omega) hj e
      rw [show (lst T).getD i 0 = (lst T)[i]'(by omega) by simp [List.getD, show i < (lst T).length by omega], show (lst T).getD j 0 = (lst T)[j] by simp [List.getD, hj]]
      omega
  have CL := hide (WI.len_any (w.heap.size + 1 + 1) T W hset)
  have C1 : Hid (Calls Tryz.prog 51 #[.int .i64 ((lst T).length : Int), .func (.func 117) #[] #[.pointer (some ⟨w.heap.size, 0, none⟩), .pointer (some ⟨w.heap.size + 1 + 1 + 1, 0, none⟩), .pointer (some ⟨w.heap.size + 1, 0, none⟩)]] W (Srch W (lst T).length (fun i => decide (place ≤ (es.getD ((lst T).getD i 0).toNat e0).seq)))) := by
    refine search_follow (lst T).length w.heap.size (w.heap.size + 1 + 1 + 1) (w.heap.size + 1) _ W (by omega) (fun i j hij hj hp => ?_) (fun i m hi' => ?_)
    · obtain ⟨j1, hj1, e1⟩ := hin i (by omega)
      obtain ⟨j2, hj2, e2⟩ := hin j hj
      have hm2 := hmono i j hij hj
      rw [e1, Int.toNat_natCast] at hp
      rw [e2, Int.toNat_natCast]
      rw [e1, e2] at hm2
      exact decide_eq_true (Int.le_trans (of_decide_eq_true hp) (hq j1 j2 (by omega) hj2))
    · obtain ⟨g, rfl⟩ := own_some hS.own (by have := hin i hi'; omega)
      obtain ⟨j1, hj1, e1⟩ := hin i hi'
      obtain ⟨q0, _⟩ := cell_of (j := 0) (u := .slice (some ⟨g, 0, none⟩) es.length c) hS.blk rfl
      refine (follow2_any (w := W.drewN m) (s := s) (g := g) (n := es.length) (c := c) (nb := w.heap.size + 1 + 1) (i := i) (j := j1) (T := T) (t := (es.getD ((lst T).getD i 0).toNat e0).seq) ⟨hset.1, hset.2.1, WI.inT_drewN hset.2.2.1, hset.2.2.2⟩ hi' (by omega) e1 hj1 kx (by rw [hfv] at ky; exact ky) kz q0 (by rw [e1, Int.toNat_natCast]; exact (own_en hS.own rfl hj1).1) (by omega) hc hm).mono ?_
      rintro e w' ⟨rfl, m', rfl⟩
      exact ⟨rfl, m + m', by simp⟩
  rw [hW0] at q1 hlook
  unfold maxLen at hm
  have HS := hide hS
  have HSET := hide hset
  have HIN := hide hin
  have HLST := hide hlst
  have HFV := hide hfv
  have HW := hide hW
  have HW0 := hide hW0
  have HKX := hide kx
  have HKY := hide ky
  clear hS hS0 hset hin hlst hmono h hb0 hb1 hs0 kx0 kz0 kz hq hT hup hu ky kx
  generalize hn : es.length = n at *
  have HN := hide hn
  clear hn
  generalize hNT : (lst T).length = NT at *
  have HNT := hide hNT
  clear hNT
  subst hfv
  clear hW hW0
  go_enter Tryz.func93, Tryz.ntmps93
  go_wp2_with fail
  rw [← HW0.out, ← HW.out]
  refine CL.out.mono ?_
  rintro e w1 ⟨rfl, rfl⟩
  clear CL hlook q1
  have CL2 : Hid (∀ W, WI.SetAt W (w.heap.size + 1 + 1) T → Calls Tryz.prog 55 #[.pointer (some ⟨w.heap.size + 1 + 1, 0, none⟩)] W fun e w' => e = .returned (.int .i64 (NT : Int)) ∧ w' = W) := fun W h => by rw [← HNT.out]; exact WI.len_any _ T W h
  go_wp2_with fail
  refine C1.out.mono ?_
  rintro e w2 ⟨fa, rfl, hfa, hfa1, hfa2, m1, rfl⟩
  have HA := hide (⟨hfa1, hfa2⟩ : (∀ i, i < fa → decide (place ≤ (es.getD ((lst T).getD i 0).toNat e0).seq) = false) ∧ ∀ i, fa ≤ i → i < NT → decide (place ≤ (es.getD ((lst T).getD i 0).toNat e0).seq) = true)
  clear hfa1 hfa2 C1
  have HS2 := hide (HS.out.below (drewG w1 m1))
  have HSET2 : Hid (WI.SetAt (w1.drewN m1) (w.heap.size + 1 + 1) T) := ⟨HSET.out.1, HSET.out.2.1, WI.inT_drewN HSET.out.2.2.1, HSET.out.2.2.2⟩
  have HKX2 : Hid ((w1.drewN m1).cell? ⟨w.heap.size, 0, none⟩ = some (.pointer (some ⟨s, 0, none⟩))) := HKX.out
  have HKY2 : Hid ((w1.drewN m1).cell? ⟨w.heap.size + 1 + 1 + 1, 0, none⟩ = some (Value.func (.func 115) #[] #[.pointer (some ⟨w.heap.size + 1 + 1, 0, none⟩)])) := HKY.out
  have HB2 := hide (HB.out.trans ((drewG w1 m1).mono HB.out.size))
  clear HS HSET HKX HKY HB HW HW0
  generalize w1.drewN m1 = W4 at *
  go_wp2_with fail
  obtain ⟨q, hq⟩ : ∃ q, q = min (fa + most) NT - fa := ⟨_, rfl⟩
  have HEQ : Hid (((((lst T).drop fa).take q).map (fun i => es.getD i.toNat e0)) = flw es x place most) := by
    have hh := HLST.out
    have h1 := flw_eq (es := es) (x := x) (place := place) (most := most) (k := fa) (by rw [HN.out, ← hh, HNT.out]; exact hfa) (by rw [HN.out, ← hh]; exact HA.out.1) (by rw [HN.out, ← hh, HNT.out]; exact HA.out.2)
    rw [HN.out, ← hh] at h1
    show _ = _
    rw [← h1]
    congr 1
    rw [List.take_eq_take_iff, List.length_drop, HNT.out]
    omega
  have hmin : min ((fa : Int) + (most : Int)) (NT : Int) = ((fa + q : Nat) : Int) := by omega
  have hqN : fa + q ≤ NT := by omega
  have hqm : q ≤ most := by omega
  clear hq HA
  have hadd : ∀ k : Nat, ((fa + k : Nat) : Int) = (fa : Int) + (k : Int) := fun k => by omega
  go_loopw [12, 13] (fun v i wr => ∃ k : Nat, k ≤ q ∧ i = .int .i64 ((fa + k : Nat) : Int) ∧ CurE W4 wr v ((((lst T).drop fa).take k).map (fun i => es.getD i.toNat e0))) (fun _ i _ => fa + q - (intOf i).toNat)
  case atStart => exact ⟨0, Nat.zero_le _, rfl, Below.refl _ _, World.ownsRow_nil _ _ _ _⟩
  case round =>
    obtain ⟨k, hk, rfl, hcur⟩ := hrel
    have HC := hide hcur
    clear hcur
    have hsetr : WI.SetAt wr (w.heap.size + 1 + 1) T := ⟨(HC.out.1.cell (p := ⟨w.heap.size + 1 + 1, 0, none⟩) (World.block_lt_of_cell? _ _ HSET2.out.1)).trans HSET2.out.1, (HC.out.1.frozen (p := ⟨w.heap.size + 1 + 1, 0, none⟩) (World.block_lt_of_cell? _ _ HSET2.out.1)).trans HSET2.out.2.1, InT.below HC.out.1 HSET2.out.2.2.1, HSET2.out.2.2.2⟩
    have CL3 := hide (CL2.out wr hsetr)
    by_cases hlt : k < q
    · obtain ⟨j, hj, hjy⟩ := HIN.out (fa + k) (by omega)
      have CA : Hid (∀ m, Calls Tryz.prog 115 #[.int .i64 ((fa + k : Nat) : Int), .pointer (some ⟨w.heap.size + 1 + 1, 0, none⟩)] (wr.drewN m) fun e w' => e = .returned (.int .i64 (j : Int)) ∧ w' = wr.drewN m) := by
        intro m
        have := follow1_any (w := wr.drewN m) (nb := w.heap.size + 1 + 1) (T := T) ⟨hsetr.1, hsetr.2.1, WI.inT_drewN hsetr.2.2.1, hsetr.2.2.2⟩ (fa + k) (by rw [HNT.out]; omega) (by rw [HNT.out]; omega)
        rwa [hjy] at this
      have hSr := HS2.out.below HC.out.1
      have ho := hSr.own
      rw [HN.out] at ho
      obtain ⟨g, rfl⟩ := own_some ho (by omega)
      obtain ⟨q0, _⟩ := cell_of (j := 0) (u := .slice (some ⟨g, 0, none⟩) n c) hSr.blk rfl
      obtain ⟨e0', e1, e2⟩ := own_en ho HN.out hj
      have kr := (HC.out.1.cell (p := ⟨w.heap.size, 0, none⟩) (World.block_lt_of_cell? _ _ HKX2.out)).trans HKX2.out
      have kf := (HC.out.1.cell (p := ⟨w.heap.size + 1 + 1 + 1, 0, none⟩) (World.block_lt_of_cell? _ _ HKY2.out)).trans HKY2.out
      have HTK : Hid ((((lst T).drop fa).take (k + 1)).map (fun i => es.getD i.toNat e0) = (((lst T).drop fa).take k).map (fun i => es.getD i.toNat e0) ++ [es.getD j e0]) := by
        show _ = _
        rw [take_snoc (by rw [List.length_drop, HNT.out]; omega) 0, List.map_append]
        congr 1
        rw [List.map_cons, List.map_nil, show ((lst T).drop fa).getD k 0 = (lst T).getD (fa + k) 0 by simp [List.getD, List.getElem?_drop], hjy, Int.toNat_natCast]
      have hml : ((((lst T).drop fa).take k).map (fun i => es.getD i.toNat e0)).length = k := by rw [List.length_map, List.length_take, List.length_drop, HNT.out]; omega
      clear hSr ho hjy hsetr
      generalize (((lst T).drop fa).take k).map (fun i => es.getD i.toNat e0) = m at *
      obtain ⟨f, hf⟩ : ∃ f, f = es.getD j e0 := ⟨_, rfl⟩
      rw [← hf] at e0' e1 e2
      have HF := hide hf
      clear hf
      obtain ⟨fs, ft, fx⟩ := f
      simp only at e0' e1 e2
      have hsz4 := HC.out.1.size
      generalize hfk : fa + k = fk at *
      have hlt2 : (fk : Int) < ((fa + q : Nat) : Int) := by omega
      go_wp2_with (first | (go_at_call 55; refine CL3.out.mono ?_; rintro e w' ⟨rfl, hw⟩; rw [hw]; clear hw w'))
      have HK4 : Hid (∀ w5, Below W4.heap.size W4 w5 → w5.cell? ⟨w.heap.size, 0, none⟩ = some (.pointer (some ⟨s, 0, none⟩)) ∧ w5.cell? ⟨w.heap.size + 1 + 1 + 1, 0, none⟩ = some (Value.func (.func 115) #[] #[.pointer (some ⟨w.heap.size + 1 + 1, 0, none⟩)]) ∧ w5.cell? ⟨s, 0, none⟩ = some (.slice (some ⟨g, 0, none⟩) n c) ∧ w5.cell? ⟨g, j * 3, none⟩ = some (.int .i64 fs) ∧ w5.cell? ⟨g, j * 3 + 1, none⟩ = some (.int .i64 ft) ∧ w5.cell? ⟨g, j * 3 + 2, none⟩ = some (.string fx)) := by
        intro w5 hb5
        have hSr := HS2.out.below hb5
        have ho := hSr.own
        rw [HN.out] at ho
        obtain ⟨d0, d1, d2⟩ := own_en ho HN.out hj
        rw [← HF.out] at d0 d1 d2
        exact ⟨(hb5.cell (p := ⟨w.heap.size, 0, none⟩) (World.block_lt_of_cell? _ _ HKX2.out)).trans HKX2.out, (hb5.cell (p := ⟨w.heap.size + 1 + 1 + 1, 0, none⟩) (World.block_lt_of_cell? _ _ HKY2.out)).trans HKY2.out, (cell_of (j := 0) hSr.blk rfl).1, d0, d1, d2⟩
      go_region_held3 (fun w' => w'.cell? ⟨w.heap.size, 0, none⟩ = some (.pointer (some ⟨s, 0, none⟩)) ∧ w'.cell? ⟨w.heap.size + 1 + 1 + 1, 0, none⟩ = some (Value.func (.func 115) #[] #[.pointer (some ⟨w.heap.size + 1 + 1, 0, none⟩)]) ∧ w'.cell? ⟨s, 0, none⟩ = some (.slice (some ⟨g, 0, none⟩) n c) ∧ w'.cell? ⟨g, j * 3, none⟩ = some (.int .i64 fs) ∧ w'.cell? ⟨g, j * 3 + 1, none⟩ = some (.int .i64 ft) ∧ w'.cell? ⟨g, j * 3 + 2, none⟩ = some (.string fx)) (first | exact ⟨by assumption, by assumption, by assumption, by assumption, by assumption, by assumption⟩ | go_keep)
        (first
          | (go_at_call 115; refine (CA.out 1).mono ?_; rintro e w' ⟨rfl, rfl⟩)
          | (refine step_own _ rfl _ _ 33 rfl W4.heap.size 49 i0 (.agg #[.int .i64 0, .int .i64 0, .string ByteArray.empty]) 3 32 Tryz.underlying33 hi0 hz0 hz1 hz2 rfl (by decide) _ _ _ rfl (by exact (curE_drewN (n := 1) HC.out).2.alloc _) ⟨wr.heap.size, 0, none⟩ 1 1 [.int .i64 fs, .int .i64 ft, .string fx] rfl rfl (by exact cell_three_new (wr.drewN 1) _ _ _ _) (by intro u hu; simp at hu; rcases hu with rfl | rfl | rfl <;> rfl) (by unfold maxLen; omega) (by omega) (by simp; omega) ?_; intro v5 w5 hown5 hgrow5; have HC5 := hide (curE_append (e := ⟨fs, ft, fx⟩) (curE_drewN (n := 1) HC.out) hown5 hgrow5); obtain ⟨r0, r1, r2, r3, r4, r5⟩ := HK4.out w5 HC5.out.1; clear hown5 hgrow5))
      go_wp2
      go_roundw
      case rel => exact ⟨k + 1, by omega, by rw [show fa + (k + 1) = fk + 1 by omega]; go_num, by rw [HTK.out, ← HF.out]; exact HC5.out⟩
      case measure => simp [intOf]; omega
    · have hke : k = q := by omega
      subst hke
      clear hsetr
      go_wp2_with (first | (go_at_call 55; refine CL3.out.mono ?_; rintro e w' ⟨rfl, hw⟩; rw [hw]; clear hw w'))
      go_ret
      exact ⟨_, rfl, CurE.pre HB2.out (by have := HC.out; rwa [HEQ.out] at this)⟩
end Go.Proofs.YtkncboinfcnklabGreatDoor

namespace Go.Proofs.YtkncboinfcnklabGreatDoor
open Go.RowKit Go.Deep Go.Proofs.YtkncboinfcnklabGreatDoor.Mth

theorem memD_to {α : Type} [DecidableEq α] {x : α} {l : List α} (h : x ∈ l) : memD x l = true := decide_eq_true h
theorem memD_from {α : Type} [DecidableEq α] {x : α} {l : List α} (h : memD x l = true) : x ∈ l := of_decide_eq_true h

/-! ### an entry more: what the index says then -/
theorem hasUp_snoc_old (es : List Ent) (e : Ent) (x : ByteArray) : hasUp (es ++ [e]) x es.length = hasUp es x es.length := by
  unfold hasUp
  congr 1
  apply List.filter_congr
  intro i hi
  have : i < es.length := by simpa using hi
  rw [show (es ++ [e]).getD i e0 = es.getD i e0 by simp [List.getD, List.getElem?_append_left this]]
theorem hasUp_snoc (es : List Ent) (e : Ent) (x : ByteArray) : hasUp (es ++ [e]) x (es ++ [e]).length = if memD x (wd e.text) = true then hasUp es x es.length ++ [(es.length : Int)] else hasUp es x es.length := by
  have hl : (es ++ [e]).length = es.length + 1 := by simp
  have hg : (es ++ [e]).getD es.length e0 = e := by simp [List.getD]
  rw [hl]
  by_cases h : memD x (wd e.text) = true
  · rw [if_pos h, hasUp_yes (by rw [hg]; exact h), hasUp_snoc_old]
  · rw [if_neg h, hasUp_no (by rw [hg]; exact (Bool.not_eq_true _).mp h), hasUp_snoc_old]
theorem rise_ext : ∀ {l m : List Int}, l.Pairwise (fun a b : Int => a < b) → m.Pairwise (fun a b : Int => a < b) → (∀ x, x ∈ l ↔ x ∈ m) → l = m
  | [], [], _, _, _ => rfl
  | [], b :: m, _, _, h => by have := (h b).2 (by simp); cases this
  | a :: l, [], _, _, h => by have := (h a).1 (by simp); cases this
  | a :: l, b :: m, h1, h2, h => by
    rw [List.pairwise_cons] at h1 h2
    have e : a = b := by
      have q1 := (h a).1 (by simp)
      have q2 := (h b).2 (by simp)
      rcases List.mem_cons.1 q1 with q1 | q1
      · exact q1
      · rcases List.mem_cons.1 q2 with q2 | q2
        · exact q2.symm
        · have := h1.1 b q2
          have := h2.1 a q1
          omega
    subst e
    congr 1
    refine rise_ext h1.2 h2.2 fun x => ⟨fun q => ?_, fun q => ?_⟩
    · rcases List.mem_cons.1 ((h x).1 (by simp [q])) with e | e
      · have := h1.1 x q; omega
      · exact e
    · rcases List.mem_cons.1 ((h x).2 (by simp [q])) with e | e
      · have := h2.1 x q; omega
      · exact e
theorem put_snoc {es : List Ent} {x : ByteArray} {S : List Int} (h : Put (fun a b : Int => a < b) (hasUp es x es.length) (es.length : Int) S) : S = hasUp es x es.length ++ [(es.length : Int)] := by
  refine rise_ext h.1 ?_ (fun y => by rw [h.2.1 y]; simp [or_comm])
  rw [List.pairwise_append]
  refine ⟨hasUp_up es x, by simp, fun a ha b hb => ?_⟩
  obtain ⟨j, hj, rfl⟩ := hasUp_lt ha
  simp at hb
  omega
/-- What the index says behind the first k words of an entry more. -/
def idxTo (es : List Ent) (ws : List ByteArray) (k : Nat) (x : ByteArray) : List Int := if memD x (ws.take k) = true then hasUp es x es.length ++ [(es.length : Int)] else hasUp es x es.length
theorem wd_nodup (s : ByteArray) : (wd s).Nodup := by
  refine List.Pairwise.imp ?_ (mergedS_up _).1
  intro a b h e
  subst e
  exact absurd h (List.lt_irrefl _)
theorem idxTo_next {es : List Ent} {ws : List ByteArray} {k : Nat} (hk : k < ws.length) (_hn : ws.Nodup) : (fun y => if y = ws.getD k ⟨#[]⟩ then hasUp es (ws.getD k ⟨#[]⟩) es.length ++ [(es.length : Int)] else idxTo es ws k y) = idxTo es ws (k + 1) := by
  funext y
  unfold idxTo
  rw [take_snoc hk ⟨#[]⟩]
  by_cases h : y = ws.getD k ⟨#[]⟩
  · rw [if_pos h, if_pos (by rw [h]; exact memD_to (by simp)), h]
  · rw [if_neg h]
    by_cases h2 : y ∈ ws.take k
    · rw [if_pos (memD_to h2), if_pos (memD_to (by simp [h2]))]
    · rw [if_neg (fun q => h2 (memD_from q)), if_neg (by
        intro q
        rcases List.mem_append.1 (memD_from q) with q | q
        · exact h2 q
        · exact h (by simpa using q))]
theorem idxTo_this {es : List Ent} {ws : List ByteArray} {k : Nat} (hk : k < ws.length) (hn : ws.Nodup) : idxTo es ws k (ws.getD k ⟨#[]⟩) = hasUp es (ws.getD k ⟨#[]⟩) es.length := by
  unfold idxTo
  rw [if_neg]
  intro q
  obtain ⟨j, hj, e⟩ := List.mem_iff_getElem.1 (memD_from q)
  rw [List.length_take] at hj
  rw [List.getElem_take] at e
  have hk2 : ws.getD k ⟨#[]⟩ = ws[k] := by simp [List.getD, hk]
  rw [hk2] at e
  exact List.pairwise_iff_getElem.1 hn j k (by omega) hk (by omega) e
end Go.Proofs.YtkncboinfcnklabGreatDoor

namespace Go.Proofs.YtkncboinfcnklabGreatDoor
open Go.RowKit Go.Deep Go.Proofs.YtkncboinfcnklabGreatDoor.Mth

theorem idxTo_zero (es : List Ent) (ws : List ByteArray) : idxTo es ws 0 = fun x => hasUp es x es.length := by
  funext x
  unfold idxTo
  rw [if_neg]
  intro q
  have := memD_from q
  simp at this

/-- What a segment is behind an entry more. -/
structure SegStp (w w' : World) (B s mb : Nat) (ev : Value) (es' : List Ent) (ev' : Value) : Prop where
  seg : SegAt w' B s es' ev' mb
  tch : Tch (ownS s mb ev) w w'
  new : ∀ g, some g = ev'.ownBlock → some g = ev.ownBlock ∨ w.heap.size ≤ g

/-- In the midst of add: only the map has been written. -/
structure AddIn (w2 wr : World) (B s mb : Nat) (es : List Ent) (ev : Value) (ws : List ByteArray) (k : Nat) : Prop where
  tch : Tch (fun g => g = mb) w2 wr
  blk : wr.heap[s]? = some (Obj.cells #[ev, .map (some mb)] 124 (0, 0))
  own : wr.ownsRow B 49 3 ev es.length (es.flatMap eC)
  idx : Idx wr mb (es.length * 64 + k) (idxTo es ws k)

theorem below_tch {S : Nat → Prop} {w w' : World} {B : Nat} {W0 : World} (hb : Below B W0 w) (h : Tch S w w') (hS : ∀ k, S k → B ≤ k) (hB : B ≤ w.heap.size) : Below B W0 w' :=
  ⟨h.os.trans hb.os, h.tape.trans hb.tape, h.output.trans hb.output, Nat.le_trans hb.size h.size, fun k hk => (h.block k (by omega) (fun q => by have := hS k q; omega)).trans (hb.block k hk)⟩

/-- The entry itself comes behind the others. -/
theorem seg_fin {w w2 wr W5 : World} {B s mb k : Nat} {es : List Ent} {ev v5 : Value} {ws : List ByteArray} {e : Ent} {o : Obj} (h : AddIn w2 wr B s mb es ev ws k) (hg : B ≤ s ∧ B ≤ mb) (hk : k ≤ 64) (hb : Below w.heap.size w w2) (hf : idxTo es ws k = fun x => hasUp (es ++ [e]) x (es ++ [e]).length)
    (o5 : W5.ownsRow B 49 3 v5 (es.length + 1) (es.flatMap eC ++ eC e)) (g6 : (wr.alloc o).grownBy W5 ev.ownBlock) (n5 : v5.ownBlock = ev.ownBlock ∨ v5.ownBlock = some (wr.alloc o).heap.size) :
    SegStp w (W5.setCell ⟨s, 0, none⟩ v5) B s mb ev (es ++ [e]) v5 := by
  have hsr : some s ≠ ev.ownBlock := fun q => by
    obtain ⟨_, _, D, hD⟩ := own_block h.own q
    rw [h.blk] at hD
    injection hD with hD
    injection hD with _ hD _
    exact absurd hD (by decide)
  have hmr : some mb ≠ ev.ownBlock := fun q => by
    obtain ⟨_, _, D, hD⟩ := own_block h.own q
    obtain ⟨es', c', hm'⟩ := h.idx.notCells
    rw [hm'] at hD
    cases hD
  have hms : mb ≠ s := fun q => by
    obtain ⟨es', c', hm'⟩ := h.idx.notCells
    rw [q, h.blk] at hm'
    cases hm'
  have hbs := beside g6 h.blk hsr
  have hsz := h.tch.size
  have hsz5 : wr.heap.size ≤ W5.heap.size := by have := g6.size; simp at this; omega
  have hfar : ∀ g, g < wr.heap.size → some g ≠ ev.ownBlock → g ≠ s → (W5.setCell ⟨s, 0, none⟩ v5).heap[g]? = wr.heap[g]? := fun g hg h1 h2 => by
    rw [set_other h2, g6.block g (by simp; omega) h1, Mth.hAO wr o (r := g) hg]
  refine ⟨⟨?_, ?_, ?_, hg⟩, ⟨g6.os.trans (h.tch.os.trans hb.os), g6.tape.trans (h.tch.tape.trans hb.tape), g6.output.trans (h.tch.output.trans hb.output), ?_, fun g hg hn => ?_⟩, fun g hg => ?_⟩
  · simp [World.setCell, Array.getElem?_modify, hbs]
  · refine own_set_other ?_ hbs (by decide)
    simpa [List.flatMap_append] using o5
  · have hi : Idx (W5.setCell ⟨s, 0, none⟩ v5) mb (es.length * 64 + k) (idxTo es ws k) := h.idx.same (hfar mb h.idx.lt hmr hms) (fun g hgn => hfar g (isN_lt hgn) (fun q => by
        obtain ⟨_, _, D, hD⟩ := own_block h.own q
        obtain ⟨C, fr, hC⟩ := hgn
        rw [hC] at hD
        injection hD with hD
        injection hD with _ hD _
        exact absurd hD (by decide)) (fun q => by
        obtain ⟨C, fr, hC⟩ := hgn
        rw [q, h.blk] at hC
        injection hC with hC
        injection hC with _ hC _
        exact absurd hC (by decide)))
    rw [hf] at hi
    refine hi.mono ?_
    rw [List.length_append, List.length_singleton]
    omega
  · have := hb.size
    simp
    omega
  · have hgw2 : g < w2.heap.size := Nat.lt_of_lt_of_le hg hb.size
    have n1 : g ≠ s := fun q => hn (Or.inl q)
    have n2 : some g ≠ ev.ownBlock := fun q => hn (Or.inr (Or.inl q))
    have n3 : g ≠ mb := fun q => hn (Or.inr (Or.inr q))
    exact (hfar g (by omega) n2 n1).trans ((h.tch.block g hgw2 n3).trans (hb.block g hg))
  · rcases n5 with q | q
    · rw [q] at hg; exact Or.inl hg
    · rw [q] at hg
      injection hg with hg
      have := hb.size
      right
      rw [hg]
      simp
      omega

set_option maxRecDepth 100000 in
set_option maxHeartbeats 4000000 in
theorem addSeg_any {w : World} {B s mb : Nat} {es : List Ent} {ev : Value} (h : SegAt w B s es ev mb) (hB : B ≤ w.heap.size) (ht : Tab w) (e : Ent) (hx : e.text.size ≤ 60) (hl : es.length ≤ 1048576) :
    Calls Tryz.prog 61 #[.pointer (some ⟨s, 0, none⟩), eV e] w fun r w' => r = .returned (.tuple #[]) ∧ ∃ ev', SegStp w w' B s mb ev (es ++ [e]) ev' := by
  obtain ⟨i0, hi0, hz0, hz1, hz2⟩ := info_parts Tryz.info49
  obtain ⟨a, c, rfl, hc, hm⟩ := own_slice h.own
  unfold maxLen at hm
  have HS := hide h
  obtain ⟨sq, tm, tx⟩ := e
  simp only at hx
  have hb0 := below_allocG w (Obj.cells #[.int .i64 sq, .int .i64 tm, .string tx] 49)
  have hbk := new_blk w #[.int .i64 sq, .int .i64 tm, .string tx] 49
  have CW := hide (words_all tx _ (ht.below hb0 (Nat.le_refl _)) (by omega))
  have HB0 := hide hb0
  have HBK := hide hbk
  have hwl := wd_len tx
  have hws : ∀ x ∈ wd tx, x.size ≤ 60 := fun x h => Nat.le_trans (wd_size tx h) hx
  have hnd := wd_nodup tx
  have HFIN : Hid (idxTo es (wd tx) (wd tx).length = fun x => hasUp (es ++ [(⟨sq, tm, tx⟩ : Ent)]) x (es ++ [(⟨sq, tm, tx⟩ : Ent)]).length) := by
    show _ = _
    funext x
    rw [hasUp_snoc]
    unfold idxTo
    rw [List.take_length]
  clear hb0 hbk h ht
  go_enter Tryz.func61, Tryz.ntmps61
  go_wp2_with (first | (go_at_call 48; refine CW.out.mono ?_; rintro e w2 ⟨v2, rfl, hc2⟩; obtain ⟨a2, c2, rfl, hc2c, hc2m⟩ := own_slice hc2.2; have HC2 := hide hc2; clear hc2))
  have HB2 : Hid (Below w.heap.size w w2) := HB0.out.trans (HC2.out.1.mono HB0.out.size)
  have HBK2 : Hid (w2.heap[w.heap.size]? = some (Obj.cells #[.int .i64 sq, .int .i64 tm, .string tx] 49 (0, 0))) := (HC2.out.1.block w.heap.size (by simp)).trans HBK.out
  have HS2 := hide (HS.out.below HB2.out)
  have HO2 := hide HC2.out.2
  have hB2 : B ≤ w2.heap.size := Nat.le_trans hB HB2.out.size
  have hnb2 : w.heap.size < w2.heap.size := (Array.getElem?_eq_some_iff.1 HBK2.out).1
  have hmbw := HS.out.idx.lt
  have hmbn := HS2.out.idx.notCells
  have hsw : s < w.heap.size := (Array.getElem?_eq_some_iff.1 HS.out.blk).1
  clear CW HB0 HBK HC2
  unfold maxLen at hc2m
  generalize hln : es.length = n at *
  have HN := hide hln
  clear hln
  generalize hwsl : wd tx = ws at *
  have HWS := hide hwsl
  clear hwsl
  generalize hwl2 : ws.length = ln at *
  have HLN := hide hwl2
  clear hwl2
  have HND := hide hnd
  have HWZ := hide hws
  clear hnd hws
  go_loopw [11] (fun i wr => ∃ k : Nat, k ≤ ln ∧ i = .int .i64 k ∧ AddIn w2 wr B s mb es (.slice a n c) ws k) (fun i _ => ln - (intOf i).toNat)
  case atStart => exact ⟨0, Nat.zero_le _, rfl, Tch.refl _ _, HS2.out.blk, by have := HS2.out.own; rwa [HN.out] at this ⊢, by
      have := HS2.out.idx
      rw [idxTo_zero, HN.out]
      rwa [HN.out] at this⟩
  case round =>
    obtain ⟨k, hk, rfl, hA⟩ := hrel
    have HA := hide hA
    clear hA
    by_cases hlt : k < ln
    · obtain ⟨g2, rfl⟩ := own_some HO2.out (by omega)
      have hkw : k < ws.length := by rw [HLN.out]; exact hlt
      have hxz : (ws.getD k ⟨#[]⟩).size ≤ 60 := HWZ.out _ (getDmem hkw)
      have hg2 := (own_block HO2.out (g := g2) rfl)
      have hg2m : g2 ≠ mb := fun q => by
        obtain ⟨_, _, D, hD⟩ := hg2
        obtain ⟨es', c', hm'⟩ := hmbn
        rw [q, hm'] at hD
        cases hD
      have d2 : wr.cell? ⟨g2, k, none⟩ = some (.string (ws.getD k ⟨#[]⟩)) := by
        have e := own_get HO2.out (j := k) (u := .string (ws.getD k ⟨#[]⟩)) (by
          rw [List.getElem?_map, List.getElem?_eq_getElem hkw]
          simp [List.getD, hkw, eS])
        exact (World.cell?_of_block (w := w2) (a := ⟨g2, k, none⟩) (HA.out.tch.block g2 hg2.2.1 hg2m)).trans e
      obtain ⟨q0, _⟩ := cell_of (j := 0) (u := .slice a n c) HA.out.blk rfl
      obtain ⟨q1, _⟩ := cell_of (j := 1) (u := .map (some mb)) HA.out.blk rfl
      obtain ⟨T, hlook, hT, hup, hlst⟩ := HA.out.idx.look (ws.getD k ⟨#[]⟩) (by unfold maxLen; omega)
      rw [idxTo_this hkw HND.out] at hlst
      have HNX := hide (idxTo_next (es := es) hkw HND.out)
      obtain ⟨u, hu⟩ := WI.ptr_pointer T
      rw [hu] at hlook
      have hset : WI.SetAt (wr.alloc (Obj.cells #[.pointer u] 128)) wr.heap.size T := by
        obtain ⟨d1, d2⟩ := cell_of (j := 0) (u := .pointer u) (new_blk wr #[.pointer u] 128) rfl
        exact ⟨by rw [hu]; exact d1, d2, InT.below (below_allocG wr _) hT, hup⟩
      have hlen : (lst T).length ≤ n := by rw [hlst, HN.out]; exact hasUp_len _ _ _
      have CA := hide (WI.add_any wr.heap.size T (n : Int) _ hset (by omega))
      have HLST := hide hlst
      have q0' := ((below_allocG wr (Obj.cells #[.pointer u] 128)).cell (p := ⟨s, 0, none⟩) (World.block_lt_of_cell? _ _ q0)).trans q0
      have hswr : s < wr.heap.size := (Array.getElem?_eq_some_iff.1 HA.out.blk).1
      clear hset hlen hT hup hlst hg2 hu
      generalize hxx : ws.getD k ⟨#[]⟩ = x at *
      have HXX := hide hxx
      clear hxx
      go_wp2_with (first | (go_at_call 87; refine CA.out.mono ?_; rintro e w4 ⟨rfl, T4, hset4, hgr4, _, hput4, hty4⟩; have HSET4 := hide hset4; have HGR4 := hide hgr4; have HPUT4 := hide hput4; have hb4 : w4.heap[s]? = some (Obj.cells #[.slice a n c, .map (some mb)] 124 (0, 0)) := (hgr4.block s (by simp; omega) (by simp; omega)).trans (old_blk _ HA.out.blk); have r0 := (cell_of (j := 1) (u := .map (some mb)) hb4 rfl).1; clear hset4 hgr4 hput4 hty4))
      have hnin : ¬ (n : Int) ∈ lst T := by
        rw [HLST.out]
        intro q
        obtain ⟨j, hj, e⟩ := hasUp_lt q
        rw [HN.out] at hj
        omega
      have hlst4 : lst T4 = hasUp es x es.length ++ [(es.length : Int)] := by
        have := HPUT4.out hnin
        rw [HLST.out, ← HN.out] at this
        exact put_snoc this
      have hb4 : w4.heap[s]? = some (Obj.cells #[.slice a n c, .map (some mb)] 124 (0, 0)) := (HGR4.out.block s (by simp; omega) (by simp; omega)).trans (old_blk _ HA.out.blk)
      have hsame : ∀ g, g < wr.heap.size → w4.heap[g]? = wr.heap[g]? := fun g hg => (HGR4.out.block g (by simp; omega) (by simp; omega)).trans (by
        show (wr.heap.push _)[g]? = _
        rw [Array.getElem?_push, if_neg (by omega)])
      have hmbr : mb < wr.heap.size := HA.out.idx.lt
      have hidx4 : Idx w4.drew mb (n * 64 + k) (idxTo es ws k) := by
        have := HA.out.idx.same (w' := w4.drew) (hsame mb hmbr) (fun g hg => hsame g (isN_lt hg))
        rwa [HN.out] at this
      obtain ⟨u4, hu4⟩ := WI.ptr_pointer T4
      obtain ⟨w5, hrun5, hidx5, hgr5⟩ := hidx4.put x (by unfold maxLen; omega) (by unfold maxLen; omega) T4 (InT.drewN (w := w4) (w' := w4.drew) rfl HSET4.out.2.2.1) HSET4.out.2.2.2
      rw [hu4] at hrun5
      have r1 : w4.cell? ⟨wr.heap.size, 0, none⟩ = some (.pointer u4) := by rw [← hu4]; exact HSET4.out.1
      have HI5 : Hid (AddIn w2 w5 B s mb es (.slice a n c) ws (k + 1)) := by
        have hsz4 : wr.heap.size ≤ w4.heap.size := by have := HGR4.out.size; simp at this; omega
        have hsne : s ≠ mb := fun q => by
          obtain ⟨es', c', hm'⟩ := hidx4.notCells
          rw [← q] at hm'
          have : w4.heap[s]? = _ := hm'
          rw [hb4] at this
          cases this
        have hw45 : ∀ g, g < wr.heap.size → g ≠ mb → w5.heap[g]? = wr.heap[g]? := fun g hg hne => (hgr5.block g (by show g < w4.heap.size; omega) (fun q => hne (by injection q))).trans (hsame g hg)
        refine ⟨⟨hgr5.os.trans (HGR4.out.os.trans HA.out.tch.os), hgr5.tape.trans (HGR4.out.tape.trans HA.out.tch.tape), hgr5.output.trans (HGR4.out.output.trans HA.out.tch.output), ?_, fun g hg hne => ?_⟩, (hw45 s hswr hsne).trans HA.out.blk, ?_, ?_⟩
        · have := hgr5.size
          have h3 := HA.out.tch.size
          have : w4.heap.size ≤ w5.heap.size := this
          omega
        · exact (hw45 g (Nat.lt_of_lt_of_le hg HA.out.tch.size) hne).trans (HA.out.tch.block g hg hne)
        · refine own_same HA.out.own (fun g hg => hw45 g (own_block HA.out.own hg).2.1 (fun q => ?_))
          obtain ⟨_, _, D, hD⟩ := own_block HA.out.own hg
          obtain ⟨es', c', hm'⟩ := HA.out.idx.notCells
          rw [q, hm'] at hD
          cases hD
        · have e := HNX.out
          rw [← e, ← Nat.add_assoc, HN.out]
          rw [hlst4] at hidx5
          rw [HN.out] at hidx5
          exact hidx5
      clear hnin hlst4 hb4 hsame hidx4 hidx5 hgr5
      go_region
      go_wp2
      go_roundw
      case rel => exact ⟨k + 1, by omega, by go_num, HI5.out⟩
      case measure => simp [intOf]; omega
    · have hke : k = ln := by omega
      subst hke
      have hbkr : wr.heap[w.heap.size]? = some (Obj.cells #[.int .i64 sq, .int .i64 tm, .string tx] 49 (0, 0)) := (HA.out.tch.block w.heap.size hnb2 (by omega)).trans HBK2.out
      obtain ⟨c0, f0⟩ := cell_of (j := 0) (u := .slice a n c) HA.out.blk rfl
      obtain ⟨b0, _⟩ := cell_of (j := 0) (u := .int .i64 sq) hbkr rfl
      obtain ⟨b1, _⟩ := cell_of (j := 1) (u := .int .i64 tm) hbkr rfl
      obtain ⟨b2, _⟩ := cell_of (j := 2) (u := .string tx) hbkr rfl
      have hown := HA.out.own
      rw [HN.out] at hown
      have HOW := hide hown
      have hBr : B ≤ wr.heap.size := Nat.le_trans hB2 HA.out.tch.size
      have hsr : Hid (some s ≠ (Value.slice a n c).ownBlock) := fun q => by
        obtain ⟨_, _, D, hD⟩ := own_block HOW.out q
        rw [HA.out.blk] at hD
        injection hD with hD
        injection hD with _ hD _
        exact absurd hD (by decide)
      have c1 := ((below_allocG wr (Obj.cells #[.int .i64 sq, .int .i64 tm, .string tx] 49)).cell (p := ⟨s, 0, none⟩) (World.block_lt_of_cell? _ _ c0)).trans c0
      clear hown hbkr
      go_wp2_with fail
      go_region_law (refine step_own_at _ rfl _ _ 33 rfl B 49 i0 (.agg #[.int .i64 0, .int .i64 0, .string ByteArray.empty]) 3 32 Tryz.underlying33 hi0 hz0 hz1 hz2 rfl (by decide) _ _ _ rfl (by exact HOW.out.alloc _) ⟨wr.heap.size, 0, none⟩ 1 1 [.int .i64 sq, .int .i64 tm, .string tx] rfl rfl (by exact cell_three_new wr.drew _ _ _ _) (by intro u hu; simp at hu; rcases hu with rfl | rfl | rfl <;> rfl) (by unfold maxLen; omega) (by omega) (by simp; omega) ?_; intro v5 W5 o5 g5 n5; obtain ⟨a5, c5, rfl, _, _⟩ := own_slice o5; have g6 : (wr.alloc (Obj.cells #[.int .i64 sq, .int .i64 tm, .string tx] 49)).grownBy W5 (Value.slice a n c).ownBlock := ⟨g5.os, g5.tape, g5.output, g5.size, g5.block⟩; obtain ⟨fb, ff⟩ := cell_of (j := 0) (u := .slice a n c) (beside g6 HA.out.blk hsr.out) rfl; have KS := hide (seg_fin (w := w) (e := ⟨sq, tm, tx⟩) HA.out HS.out.ge (by omega) HB2.out HFIN.out (by rw [HN.out]; exact o5) g6 n5); clear o5 g5 g6 n5)
      all_goals (
        go_wp2
        go_end0
        exact ⟨rfl, _, by rw [HN.out]; exact KS.out⟩)
end Go.Proofs.YtkncboinfcnklabGreatDoor
