import Derived.Test.YtkncboinfcnklaaGreatDoorGg
import Derived.Test.YtkncboinfcnklaaGreatDoorLb
namespace Go.Proofs.YtkncboinfcnklaaGreatDoor
open Go.RowKit Go.Deep Go.Shelf Go.Proofs.YtkncboinfcnklaaGreatDoor.Mth

set_option maxRecDepth 100000 in
set_option maxHeartbeats 1000000 in
theorem eqTexts_any {v1 v2 : Value} {l m : List ByteArray} {w : World} (h1 : Rd w v1 l) (h2 : Rd w v2 m) :
    Calls Tryz.prog 146 #[v1, v2] w fun e w' => e = .returned (.bool (decide (l = m))) ∧ Below w.heap.size w w' := by
  obtain ⟨a1, c1, rfl, hc1, hm1⟩ := rd_len h1
  obtain ⟨a2, c2, rfl, hc2, hm2⟩ := rd_len h2
  unfold maxLen at hm1 hm2
  have HA := hide h1
  have HB := hide h2
  clear h1 h2
  by_cases hlm : l.length = m.length
  · have HLM := hide hlm
    rw [← hlm] at hc2 ⊢
    have HB' : Hid (Rd w (.slice a2 l.length c2) m) := by have := HB.out; rw [← hlm] at this; exact this
    clear hlm HB
    generalize hn : l.length = n at *
    have HN := hide hn
    clear hn
    go_enter Tryz.func146, Tryz.ntmps146
    go_wp2_with fail
    go_loopw [13] (fun i wr => ∃ k : Nat, k ≤ n ∧ i = .int .i64 k ∧ (∀ j, j < k → l.getD j ByteArray.empty = m.getD j ByteArray.empty) ∧ Below w.heap.size w wr) (fun i _ => n - (intOf i).toNat)
    case atStart => exact ⟨0, Nat.zero_le _, rfl, fun j hj => absurd hj (by omega), Below.refl _ _⟩
    case round =>
      obtain ⟨k, hk, rfl, hal, hb⟩ := hrel
      by_cases hlt : k < n
      · obtain ⟨b1, o1, rfl, _, d1⟩ := rd_at (HA.out.below hb) k (by rw [HN.out]; exact hlt)
        obtain ⟨b2, o2, rfl, _, d2⟩ := rd_at (HB'.out.below hb) k (by rw [← HLM.out]; exact hlt)
        have d1' := cell_regrown d1
        have d2' := cell_regrown d2
        have HBB := hide hb
        clear hb d1 d2
        have HAL := hide hal
        clear hal
        generalize hx : l.getD k ByteArray.empty = x at *
        generalize hy : m.getD k ByteArray.empty = y at *
        have HX := hide hx
        have HY := hide hy
        clear hx hy
        by_cases hxy : x = y
        · subst hxy
          go_wp2
          refine wp_region_quiet_below (by kernel_rfl) (by kernel_rfl) ?_
          repeat (go_big_quiet_step (fail))
          refine wpQuiet_nil ?_
          intro _ hw'
          obtain ⟨⟨dq, osq⟩, hw''⟩ := hw'
          subst hw''
          have HB2 := hide (HBB.out.trans ((below_regrown wr dq osq).mono HBB.out.size))
          clear d1' d2'
          generalize Sort.grow (redrawn wr dq) osq = w2 at *
          go_wp2
          go_roundw
          case rel => exact ⟨k + 1, by omega, by go_num, fun j hj => by
            by_cases hjk : j < k
            · exact HAL.out j hjk
            · obtain rfl : j = k := by omega
              exact HX.out.trans HY.out.symm, HB2.out⟩
          case measure => simp [intOf]; omega
        · have hne : l ≠ m := fun q => hxy (by rw [← HX.out, ← HY.out, q])
          have hdec : decide (l = m) = false := decide_eq_false hne
          have hdec2 : (x.toList == y.toList) = false := eqS_false hxy
          go_wp2
          refine wp_region_quiet_below (by kernel_rfl) (by kernel_rfl) ?_
          repeat (go_big_quiet_step (fail))
          refine wpQuiet_nil ?_
          intro _ hw'
          obtain ⟨⟨dq, osq⟩, hw''⟩ := hw'
          subst hw''
          have HB2 := hide (HBB.out.trans ((below_regrown wr dq osq).mono HBB.out.size))
          clear d1' d2'
          generalize Sort.grow (redrawn wr dq) osq = w2 at *
          go_wp2
          go_ret
          exact ⟨by simp [hne], HB2.out⟩
      · go_wp2
        go_ret
        have hkn : k = n := by omega
        subst hkn
        refine ⟨?_, hb⟩
        have : l = m := List.ext_getElem (HN.out.trans HLM.out) (fun j q1 q2 => by
          have := hal j (by have := HN.out; omega)
          rw [← List.getElem_eq_getD (h := q1), ← List.getElem_eq_getD (h := q2)] at this
          exact this)
        rw [this]; simp
  · have hne : l ≠ m := fun q => hlm (by rw [q])
    have hdec : decide (l = m) = false := decide_eq_false hne
    rw [hdec]
    clear hdec hne HA HB
    generalize l.length = n at *
    generalize m.length = n' at *
    have hq : ¬ ((n : Int) = (n' : Int)) := by omega
    go_enter Tryz.func146, Tryz.ntmps146
    go_wp2_with fail
    go_ret
    exact ⟨rfl, Below.refl _ _⟩

/-- May a text have this word? -/
def isWd (x : ByteArray) : Bool := decide (x.size ≤ 60 ∧ wd x = [x])

set_option maxRecDepth 100000 in
set_option maxHeartbeats 1000000 in
theorem isWord_any (x : ByteArray) (w : World) (ht : Tab w) (hs : x.size ≤ maxLen) :
    Calls Tryz.prog 89 #[.string x] w fun e w' => e = .returned (.bool (isWd x)) ∧ Below w.heap.size w w' := by
  unfold maxLen at hs
  by_cases h : x.size ≤ 60
  · have HW := hide (words_any x w ht h)
    have hd : isWd x = decide (wd x = [x]) := by unfold isWd; simp [h]
    rw [hd]
    go_enter Tryz.func89, Tryz.ntmps89
    go_wp2_with fail
    refine HW.out.mono ?_
    rintro e w1 ⟨v, rfl, hb, hr⟩
    have HB := hide hb
    have HR := hide (hr.1.below (below_alloc w1 (Obj.cells #[.string x] 9)))
    clear hb hr HW
    have hRD : Rd (w1.alloc (Obj.cells #[.string x] 9)) (.slice (some ⟨w1.heap.size, 0, none⟩) 1 1) [x] := rd_own (World.ownsRow_lit (base := 0) w1 #[.string x] 1 (Nat.zero_le _) (by unfold maxLen; omega) rfl)
    have HQ := hide (eqTexts_any HR.out hRD)
    clear hRD
    go_wp2_with fail
    refine HQ.out.mono ?_
    rintro e w2 ⟨rfl, hb2⟩
    go_wp2
    go_ret
    exact ⟨rfl, HB.out.trans (((below_alloc w1 _).trans (hb2.mono (below_alloc w1 _).size)).mono HB.out.size)⟩
  · have hd : isWd x = false := by unfold isWd; simp [h]
    rw [hd]
    clear hd
    go_enter Tryz.func89, Tryz.ntmps89
    go_wp2_with fail
    go_ret
    exact ⟨rfl, Below.refl _ _⟩
end Go.Proofs.YtkncboinfcnklaaGreatDoor

namespace Go.Proofs.YtkncboinfcnklaaGreatDoor
open Go.RowKit Go.Deep Go.Shelf Go.Proofs.YtkncboinfcnklaaGreatDoor.Mth

/-- The entries of the segments of all levels, from the last level's first one on. -/
def segs (lev : Nat → List (List Ent)) : List (List Ent) := (downTo 6).flatMap (fun x => lev x.1)
theorem LV.pairs {w : World} {ρ : Nat → Nat} {B : Nat} {G : Gh} {L : Lg} (h : LV w ρ B G L) : ∃ ps : List (Nat × List Ent), ps.map Prod.fst = sgs G.bs (downTo 6) ∧ ps.map Prod.snd = segs L.lev ∧ ∀ p ∈ ps, SegAt w B p.1 p.2 (G.se p.1) (G.sm p.1) := by
  refine ⟨(downTo 6).flatMap (fun x => (G.bs x.1).zip (L.lev x.1)), ?_, ?_, ?_⟩
  · rw [List.map_flatMap]
    refine congrArg (fun f => (downTo 6).flatMap f) (funext fun x => ?_)
    exact List.map_fst_zip (Nat.le_of_eq (h.len x.1 x.2))
  · rw [List.map_flatMap]
    refine congrArg (fun f => (downTo 6).flatMap f) (funext fun x => ?_)
    exact List.map_snd_zip (Nat.le_of_eq (h.len x.1 x.2).symm)
  · intro p hp
    obtain ⟨x, _, hx⟩ := List.mem_flatMap.1 hp
    obtain ⟨j, hj, e⟩ := List.getElem_of_mem hx
    rw [List.getElem_zip] at e
    rw [List.length_zip] at hj
    have := h.seg x.1 x.2 j (by omega)
    rw [← List.getElem_eq_getD (h := by omega), ← List.getElem_eq_getD (h := by omega)] at this
    rw [← e]
    exact this

theorem List.getD_map_of_lt {α β : Type} {l : List α} {f : α → β} {k : Nat} (d : β) (e : α) (h : k < l.length) : (l.map f).getD k d = f (l.getD k e) := by
  rw [← List.getElem_eq_getD (h := by simpa using h), ← List.getElem_eq_getD (h := h), List.getElem_map]
/-- What the first segments tell. -/
def qFnd (x : ByteArray) (lo hi : Int) (ps : List (List Ent)) : List Ent := ps.flatMap (fun es => fnd es x lo hi)
def qOpn (x : ByteArray) (lo hi : Int) (ps : List (List Ent)) : Nat := (ps.filter (fun es => mts es x lo hi)).length
theorem qFnd_le (x : ByteArray) (lo hi : Int) : ∀ ps : List (List Ent), (qFnd x lo hi ps).length ≤ ps.flatten.length
  | [] => by simp [qFnd]
  | es :: ps => by
    have := qFnd_le x lo hi ps
    have h2 : (fnd es x lo hi).length ≤ es.length := List.length_filter_le _ _
    simp only [qFnd, List.flatMap_cons, List.flatten_cons, List.length_append] at *
    omega
theorem own_ne {w : World} {B1 B2 : Nat} {e1 e2 : TypeId} {s1 s2 n1 n2 : Nat} {v1 v2 : Value} {xs1 xs2 : List Value} (h1 : w.ownsRow B1 e1 s1 v1 n1 xs1) (h2 : w.ownsRow B2 e2 s2 v2 n2 xs2) (he : e1 ≠ e2) : v1.ownBlock = none ∨ v1.ownBlock ≠ v2.ownBlock := by
  cases q : v1.ownBlock with
  | none => exact Or.inl rfl
  | some g =>
    refine Or.inr (fun q2 => he ?_)
    obtain ⟨_, _, D, hD⟩ := own_block h1 q.symm
    obtain ⟨_, _, D', hD'⟩ := own_block h2 q2
    rw [hD] at hD'
    injection hD' with hD'
    injection hD' with _ e _
theorem below_grown {w wr w' : World} {v : Value} {B : Nat} {e : TypeId} {sz n : Nat} {xs : List Value} (hb : Below w.heap.size w wr) (h : wr.ownsRow B e sz v n xs) (hB : w.heap.size ≤ B) (hg : wr.grownBy w' v.ownBlock) : Below w.heap.size w w' :=
  ⟨hg.os.trans hb.os, hg.tape.trans hb.tape, hg.output.trans hb.output, Nat.le_trans hb.size hg.size, fun k hk => (hg.block k (Nat.lt_of_lt_of_le hk hb.size) (fun q => by have := (own_block h q).1; omega)).trans (hb.block k hk)⟩
theorem eC_one (l : List Ent) : ∀ u ∈ l.flatMap eC, u.oneCell' = true := by
  intro u hu
  obtain ⟨e, _, he⟩ := List.mem_flatMap.1 hu
  simp only [eC, List.mem_cons, List.not_mem_nil, or_false] at he
  rcases he with rfl | rfl | rfl <;> rfl

/-- The young time of a query. -/
def yng (L : Lg) (lo : Int) : Int := max lo ((L.clock : Int) - (L.keep : Int))

set_option maxRecDepth 100000 in
set_option maxHeartbeats 4000000 in
theorem query_yes {w : World} {ρ : Nat → Nat} {B N lb : Nat} {G : Gh} {L : Lg} (h : LogAt w ρ B N lb G L) (ht : Tab w) (x : ByteArray) (hx : x.size ≤ maxLen) (hw : isWd x = true) (lo hi : Int) (hc : L.clock ≤ 1000000000000) (hk : L.keep ≤ 1000000)
    (hl : ∀ i, i < 6 → (L.lev i).length ≤ 500000) (hT : (segs L.lev).flatten.length + L.mem.length ≤ 1048576) (hS : ∀ es ∈ segs L.lev, Tms es) (hM : Tms L.mem) :
    Calls Tryz.prog 50 #[ptrV lb, .string x, .int .i64 lo, .int .i64 hi] w fun e w' => ∃ v, e = .returned (.tuple #[v, .int .i64 (qOpn x lo hi (segs L.lev) : Int), .int .i64 0]) ∧ CurE w w' v (qFnd x (yng L lo) hi (segs L.lev) ++ fnd L.mem x (yng L lo) hi) := by
  obtain ⟨i0, hi0, hz0, hz1, hz2⟩ := info_parts Tryz.info66
  have CW := hide (isWord_any x w ht hx)
  rw [hw] at CW
  have CY : Hid (∀ w1, Below w.heap.size w w1 → Calls Tryz.prog 90 #[ptrV lb] w1 fun e w' => e = .returned (.int .i64 ((L.clock : Int) - (L.keep : Int))) ∧ Below w1.heap.size w1 w') := fun w1 hb => young_any (h.x.below hb) hc hk
  have CS : Hid (∀ w1, Below w.heap.size w w1 → Calls Tryz.prog 91 #[ptrV lb] w1 fun e w' => ∃ v, e = .returned v ∧ w'.ownsRow w1.heap.size 128 1 v (sgs G.bs (downTo 6)).length ((sgs G.bs (downTo 6)).map ptrV) ∧ Below w1.heap.size w1 w') := fun w1 hb => segments_any (h.x.below hb) hl
  obtain ⟨ps, hp1, hp2, hp3⟩ := h.x.v.pairs
  obtain ⟨c7, _⟩ := cell_of (j := 7) (u := ptrV G.ms) h.x.b.blk rfl
  have hlbw : lb < w.heap.size := (h.x.lt lb (by rw [h.x.b.rl]; omega)).1
  have HM := hide h.m.seg
  generalize hyy : (L.clock : Int) - (L.keep : Int) = yy at *
  have hyn : yng L lo = max lo yy := by unfold yng; rw [hyy]
  rw [hyn]
  clear hyn hyy
  generalize hsg : segs L.lev = sg at *
  generalize hsb : sgs G.bs (downTo 6) = sb at *
  clear h hsg hsb
  go_enter Tryz.func50, Tryz.ntmps50
  go_wp2_with (first
    | (go_at_call 89; refine CW.out.mono ?_; rintro e w1 ⟨rfl, hb1⟩; have HB1 := hide hb1; clear hb1)
    | (go_at_call 90; refine (CY.out _ HB1.out).mono ?_; rintro e w2 ⟨rfl, hb2⟩; have HB2 := hide (HB1.out.trans (hb2.mono HB1.out.size)); clear hb2)
    | (go_at_call 91; refine (CS.out _ HB2.out).mono ?_; rintro e w3 ⟨sv, rfl, ho3, hb3⟩; have HB3 := hide (HB2.out.trans (hb3.mono HB2.out.size)); have HO3 := hide ho3; clear hb3; obtain ⟨sa, sc, rfl, hsc1, hsc2⟩ := own_slice ho3; clear ho3))
  generalize hYY : max lo yy = Y at *
  have HYY := hide hYY
  clear hYY
  have hn1 : sb.length = ps.length := by rw [← hp1, List.length_map]
  have hn2 : sg.length = ps.length := by rw [← hp2, List.length_map]
  have HP : Hid (∀ k, k < ps.length → sb.getD k 0 = (ps.getD k (0, [])).1 ∧ sg.getD k [] = (ps.getD k (0, [])).2 ∧ SegAt w B (sb.getD k 0) (sg.getD k []) (G.se (sb.getD k 0)) (G.sm (sb.getD k 0)) ∧ (sg.getD k []).length ≤ 1048576 ∧ Tms (sg.getD k [])) := by
    intro k hk
    have e1 : sb.getD k 0 = (ps.getD k (0, [])).1 := by rw [← hp1, List.getD_map_of_lt _ _ hk]
    have e2 : sg.getD k [] = (ps.getD k (0, [])).2 := by rw [← hp2, List.getD_map_of_lt _ _ hk]
    have hm : ps.getD k (0, []) ∈ ps := by rw [← List.getElem_eq_getD (h := hk)]; exact List.getElem_mem hk
    have hm2 : sg.getD k [] ∈ sg := by rw [← List.getElem_eq_getD (h := by omega)]; exact List.getElem_mem _
    refine ⟨e1, e2, ?_, ?_, hS _ hm2⟩
    · rw [e1, e2]; exact hp3 _ hm
    · have := (List.sublist_flatten_of_mem hm2).length_le
      omega
  have HT := hide hT
  have HFL : Hid (∀ k, (qFnd x Y hi (sg.take k)).length + (fnd L.mem x Y hi).length ≤ 1048576) := by
    intro k
    have h1 := qFnd_le x Y hi (sg.take k)
    have h2 : (fnd L.mem x Y hi).length ≤ L.mem.length := List.length_filter_le _ _
    have h3 : (sg.take k).flatten.length ≤ sg.flatten.length := by
      have := congrArg List.length (congrArg List.flatten (List.take_append_drop k sg))
      rw [List.flatten_append, List.length_append] at this
      omega
    omega
  unfold maxLen at hsc2
  have hnb : sb.length ≤ 9223372036854775807 := by omega
  rw [hn1] at HO3 hnb hsc1 ⊢
  generalize hn : ps.length = n at *
  have HN1 := hide hn1
  have HN2 := hide hn2
  have hz2 : w.heap.size ≤ w2.heap.size := HB2.out.size
  clear hp1 hp2 hp3 hT hS hn1 hn2 hn CW CY CS HB1 HB2
  go_loopw [12, 13, 26] (fun v o i wr => ∃ k : Nat, k ≤ n ∧ i = .int .i64 k ∧ o = .int .i64 (qOpn x lo hi (sg.take k) : Int) ∧ CurE w wr v (qFnd x Y hi (sg.take k)) ∧ wr.ownsRow w.heap.size 128 1 (.slice sa n sc) n (sb.map ptrV)) (fun _ _ i _ => n - (intOf i).toNat)
  case atStart => exact ⟨0, Nat.zero_le _, rfl, rfl, ⟨HB3.out, World.ownsRow_nil _ _ _ _⟩, own_base HO3.out hz2⟩
  clear hz2
  case round =>
    obtain ⟨k, hk, rfl, rfl, hcur, hsl⟩ := hrel
    have HCUR := hide hcur
    have HSL := hide hsl
    by_cases hlt : k < n
    · obtain ⟨pe1, pe2, hseg, hsl2, htm⟩ := HP.out k hlt
      obtain ⟨g, rfl⟩ := own_some hsl (by omega)
      have hcell : wr.cell? ⟨g, k, none⟩ = some (ptrV (sb.getD k 0)) := own_get hsl (by rw [List.getElem?_map, List.getElem?_eq_getElem (by rw [HN1.out]; exact hlt), List.getElem_eq_getD 0]; rfl)
      have hseg' := hseg.below hcur.1
      have CF := hide (find_seg hseg' x hx Y hi hsl2 htm)
      have CM : Hid (∀ w1, Below w.heap.size w w1 → Calls Tryz.prog 93 #[ptrV (sb.getD k 0), .string x, .int .i64 lo, .int .i64 hi] w1 fun e w' => e = .returned (.bool (mts (sg.getD k []) x lo hi)) ∧ Below w1.heap.size w1 w') := fun w1 hb => meets_any (hseg.below hb) x hx lo hi hsl2
      have hf1 : qFnd x Y hi (sg.take (k + 1)) = qFnd x Y hi (sg.take k) ++ fnd (sg.getD k []) x Y hi := by
        rw [take_snoc (by rw [HN2.out]; exact hlt) []]
        simp [qFnd]
      have hf2 : qOpn x lo hi (sg.take (k + 1)) = qOpn x lo hi (sg.take k) + (if mts (sg.getD k []) x lo hi then 1 else 0) := by
        rw [take_snoc (by rw [HN2.out]; exact hlt) []]
        generalize sg.getD k [] = es0
        simp only [qOpn, List.filter_append, List.length_append, List.filter_cons, List.filter_nil]
        cases mts es0 x lo hi <;> rfl
      have hfl := HFL.out (k + 1)
      rw [hf1, List.length_append] at hfl
      have hql : qOpn x lo hi (sg.take k) ≤ k := Nat.le_trans (List.length_filter_le _ _) (by simp; omega)
      have HF1 := hide hf1
      have HF2 := hide hf2
      obtain ⟨va, vc, rfl, _, _⟩ := own_slice hcur.2
      clear hcur hsl hseg hseg' htm hf1 hf2 pe1 pe2
      generalize sb.getD k 0 = pb at *
      generalize sg.getD k [] = es at *
      generalize qOpn x lo hi (sg.take k) = ok at *
      have CFN := hide (rfl : fnd es x Y hi = fnd es x Y hi)
      go_wp2_with (first
        | (go_at_call 92; refine CF.out.mono ?_; rintro e w5 ⟨v5, rfl, hc5⟩; obtain ⟨a5, k5, rfl, _, _⟩ := own_slice hc5.2; have HC5 := hide hc5; have HB5 := hide (HCUR.out.1.trans (hc5.1.mono HCUR.out.1.size)); have HCW5 := hide (own_same HCUR.out.2 (fun g hg => hc5.1.block g (own_block HCUR.out.2 hg).2.1)); have HSL5 := hide (own_same HSL.out (fun g hg => hc5.1.block g (own_block HSL.out hg).2.1)); clear hc5)
        | (at_builtin; refine wpList_append_any _ rfl _ _ 57 rfl w.heap.size wr.heap.size 66 i0 (.agg #[.int .i64 0, .int .i64 0, .string ByteArray.empty]) 3 32 Tryz.underlying57 hi0 hz0 hz1 hz2 rfl (by decide) _ _ _ rfl HCW5.out _ _ _ rfl HC5.out.2 (eC_one _) (by unfold maxLen; omega) (by omega) (by have := HB5.out.size; omega) ?_; intro v6 w6 ho6 hg6; have HB6 := hide (below_grown HB5.out HCW5.out (Nat.le_refl _) hg6); have HSL6 := hide (HSL5.out.kept hg6 (own_ne HSL5.out HCW5.out (by decide))); rw [← List.flatMap_append] at ho6; rw [← List.length_append] at ho6; rw [← HF1.out] at ho6; have HO6 := hide ho6; clear ho6 hg6)
        | (go_at_call 93; refine (CM.out _ HB6.out).mono ?_; rintro e w7 ⟨rfl, hb7⟩; have HB7 := hide (HB6.out.trans (hb7.mono HB6.out.size)); have HO7 := hide (own_same HO6.out (fun g hg => hb7.block g (own_block HO6.out hg).2.1)); have HSL7 := hide (own_same HSL6.out (fun g hg => hb7.block g (own_block HSL6.out hg).2.1)); clear hb7))
      · rename_i hmt
        go_roundw
        case rel => exact ⟨k + 1, by omega, by go_num, by rw [HF2.out, if_pos hmt]; go_num, ⟨HB7.out, HO7.out⟩, HSL7.out⟩
        case measure => simp [intOf]; omega
      · rename_i hmt
        go_roundw
        case rel => exact ⟨k + 1, by omega, by go_num, by rw [HF2.out, hmt]; rfl, ⟨HB7.out, HO7.out⟩, HSL7.out⟩
        case measure => simp [intOf]; omega
    · obtain rfl : k = n := by omega
      have htk : sg.take k = sg := List.take_of_length_le (Nat.le_of_eq HN2.out)
      rw [htk] at HCUR
      have hfl := HFL.out k
      rw [htk] at hfl ⊢
      have hm' := HM.out.below HCUR.out.1
      have c7' : wr.cell? ⟨lb, 7, none⟩ = some (ptrV G.ms) := (HCUR.out.1.cell (p := ⟨lb, 7, none⟩) hlbw).trans c7
      have CF := hide (find_seg hm' x hx Y hi (by have := HT.out; omega) hM)
      obtain ⟨va, vc, rfl, _, _⟩ := own_slice HCUR.out.2
      clear hcur hsl hm' c7 HM HFL HP HSL hM
      generalize hOK : qOpn x lo hi sg = ok at *
      have HOK := hide hOK
      clear hOK
      generalize hES : L.mem = es at *
      have HES := hide hES
      clear hES
      generalize G.ms = pb at *
      go_wp2_with (first
        | (go_at_call 92; refine CF.out.mono ?_; rintro e w5 ⟨v5, rfl, hc5⟩; obtain ⟨a5, k5, rfl, _, _⟩ := own_slice hc5.2; have HC5 := hide hc5; have HB5 := hide (HCUR.out.1.trans (hc5.1.mono HCUR.out.1.size)); have HCW5 := hide (own_same HCUR.out.2 (fun g hg => hc5.1.block g (own_block HCUR.out.2 hg).2.1)); clear hc5)
        | (at_builtin; refine wpList_append_any _ rfl _ _ 57 rfl w.heap.size wr.heap.size 66 i0 (.agg #[.int .i64 0, .int .i64 0, .string ByteArray.empty]) 3 32 Tryz.underlying57 hi0 hz0 hz1 hz2 rfl (by decide) _ _ _ rfl HCW5.out _ _ _ rfl HC5.out.2 (eC_one _) (by unfold maxLen; omega) (by omega) (by have := HB5.out.size; omega) ?_; intro v6 w6 ho6 hg6; have HB6 := hide (below_grown HB5.out HCW5.out (Nat.le_refl _) hg6); rw [← List.flatMap_append] at ho6; rw [← List.length_append] at ho6; have HO6 := hide ho6; clear ho6 hg6))
      go_ret3
      rw [HYY.out, HES.out, HOK.out]
      exact ⟨_, rfl, HB6.out, HO6.out⟩

set_option maxRecDepth 100000 in
set_option maxHeartbeats 1000000 in
theorem query_no {w : World} {lb : Nat} (ht : Tab w) (x : ByteArray) (hx : x.size ≤ maxLen) (hw : isWd x = false) (lo hi : Int) :
    Calls Tryz.prog 50 #[ptrV lb, .string x, .int .i64 lo, .int .i64 hi] w fun e w' => e = .returned (.tuple #[.slice none 0 0, .int .i64 0, .int .i64 6]) ∧ Below w.heap.size w w' := by
  have CW := hide (isWord_any x w ht hx)
  rw [hw] at CW
  go_enter Tryz.func50, Tryz.ntmps50
  go_wp2_with (first
    | (go_at_call 89; refine CW.out.mono ?_; rintro e w1 ⟨rfl, hb1⟩; have HB1 := hide hb1; clear hb1))
  go_ret3
  exact ⟨rfl, HB1.out⟩
end Go.Proofs.YtkncboinfcnklaaGreatDoor

namespace Go.Proofs.YtkncboinfcnklaaGreatDoor
open Go.RowKit Go.Deep Go.Shelf Go.Proofs.YtkncboinfcnklaaGreatDoor.Mth

def pnd (k : Wk) : Nat := k.list.length + (if k.runs.isSome then 1 else 0)
/-- How many tasks there are. -/
def pends (ks : List Wk) : Nat := (ks.map pnd).sum

set_option maxRecDepth 100000 in
set_option maxHeartbeats 1000000 in
theorem pending_any {w : World} {lb b : Nat} {k : Wk} (h : WkRd w lb b k) (hl : k.list.length ≤ 100) :
    Calls Tryz.prog 54 #[.pointer (some ⟨b, 0, none⟩)] w fun e w' => e = .returned (.int .i64 (pnd k : Int)) ∧ Below w.heap.size w w' := by
  obtain ⟨lv, hb, hr⟩ := h
  obtain ⟨a, c, rfl, hc, hm, _⟩ := hr
  obtain ⟨c1, _⟩ := cellG (j := 1) (u := .slice a k.list.length c) hb rfl
  obtain ⟨c2, _⟩ := cellG (j := 2) (u := .int .i64 (rf k.runs)) hb rfl
  obtain ⟨c3, _⟩ := cellG (j := 3) (u := .int .i64 (ri k.runs)) hb rfl
  have hq : ((rf k.runs == (0 : Int)) && (ri k.runs == (0 : Int))) = !k.runs.isSome := by
    cases k.runs with
    | none => rfl
    | some i => simp only [rf, ri, Option.isSome]; rw [Bool.and_eq_false_iff.2 (Or.inr (by simp; omega))]; rfl
  have hp : pnd k = k.list.length + (if k.runs.isSome then 1 else 0) := rfl
  generalize pnd k = pk at *
  generalize rf k.runs = r1 at *
  generalize ri k.runs = r2 at *
  generalize k.list.length = n at *
  clear hb
  cases hs : k.runs.isSome with
  | true =>
    rw [hs] at hq hp
    simp only [Bool.not_true] at hq
    rw [if_pos rfl] at hp
    subst hp
    go_enter Tryz.func54, Tryz.ntmps54
    go_wp2_with fail
    all_goals first
      | (exfalso; rename_i h1 h2; rw [h1, h2] at hq; revert hq; decide)
      | (go_ret; exact ⟨by go_num, Below.refl _ _⟩)
  | false =>
    rw [hs] at hq hp
    simp only [Bool.not_false] at hq
    simp at hp
    subst hp
    go_enter Tryz.func54, Tryz.ntmps54
    go_wp2_with fail
    all_goals first
      | (exfalso; rename_i h1 h2; revert hq; simp [h1, h2]; done)
      | (exfalso; rename_i h1; revert hq; simp [h1]; done)
      | (go_ret; exact ⟨rfl, Below.refl _ _⟩)

theorem pends_snoc {ks : List Wk} {k : Nat} (h : k < ks.length) : pends (ks.take (k + 1)) = pends (ks.take k) + pnd (ks.getD k wk0) := by
  rw [take_snoc h wk0]
  simp [pends]

set_option maxRecDepth 100000 in
set_option maxHeartbeats 1000000 in
theorem pend_any {w : World} {ρ : Nat → Nat} {B N lb : Nat} {G : Gh} {L : Lg} (h : LogX w ρ B N lb G L) :
    Calls Tryz.prog 24 #[ptrV lb] w fun e w' => e = .returned (.int .i64 (pends L.wks : Int)) ∧ Below w.heap.size w w' := by
  obtain ⟨c14, _⟩ := cell_of (j := 14) (u := G.wr) h.b.blk rfl
  have HW := hide h.wksRd
  have HL : Hid (∀ j, j < L.wks.length → (L.wks.getD j wk0).list.length ≤ 5) := fun j hj => wk_len (h.k.ok j hj)
  obtain ⟨a, c, hwr, hc, hm, hp⟩ := h.wksRd.row
  have hln := h.wksRd.len
  have hfew := h.wksRd.few
  rw [hwr, hln] at c14
  rw [hwr] at HW
  rw [hln] at hc hp HW
  unfold maxLen at hm
  have HP := hide hp
  clear h hp hwr
  generalize hn : L.wks.length = n at *
  have HN := hide hn
  clear hn
  generalize L.wks = ks at *
  go_enter Tryz.func24, Tryz.ntmps24
  go_wp2_with fail
  go_loopw [3, 11] (fun v i wr => ∃ k : Nat, k ≤ n ∧ i = .int .i64 k ∧ v = .int .i64 (pends (ks.take k) : Int) ∧ pends (ks.take k) ≤ 6 * k ∧ Below w.heap.size w wr) (fun _ i _ => n - (intOf i).toNat)
  case atStart => exact ⟨0, Nat.zero_le _, rfl, rfl, by simp [pends], Below.refl _ _⟩
  case round =>
    obtain ⟨k, hk, rfl, rfl, hpk, hb⟩ := hrel
    have HB := hide hb
    by_cases hlt : k < n
    · have hrd := (HW.out.one k (by rw [HN.out]; exact hlt)).below hb
      have hl5 := HL.out k hlt
      have CP := hide (pending_any hrd (by omega))
      have hsn := pends_snoc (ks := ks) (k := k) (by rw [HN.out]; exact hlt)
      have hpk5 : pnd (ks.getD k wk0) ≤ 6 := by unfold pnd; split <;> omega
      have hcell : ∃ b o, a = some ⟨b, o, none⟩ ∧ wr.cell? ⟨b, o + k, none⟩ = some (ptrV (G.wb.getD k 0)) := by
        rcases HP.out with e | ⟨b, o, e, hq⟩
        · rw [e] at hln; simp at hln; omega
        · have := hq k hlt
          exact ⟨b, o, e, (hb.cell (p := ⟨b, o + k, none⟩) (World.block_lt_of_cell? _ _ this)).trans this⟩
      obtain ⟨b, o, rfl, hcell⟩ := hcell
      have HSN := hide hsn
      clear hb hrd hsn
      generalize G.wb.getD k 0 = pb at *
      generalize pnd (ks.getD k wk0) = pk at *
      generalize hpp : pends (ks.take k) = pp at *
      go_wp2_with (first
        | (go_at_call 54; refine CP.out.mono ?_; rintro e w5 ⟨rfl, hb5⟩; have HB5 := hide (HB.out.trans (hb5.mono HB.out.size)); clear hb5))
      go_roundw
      case rel => exact ⟨k + 1, by omega, by go_num, by rw [HSN.out]; go_num, by rw [HSN.out]; omega, HB5.out⟩
      case measure => simp [intOf]; omega
    · obtain rfl : k = n := by omega
      have htk : ks.take k = ks := List.take_of_length_le (Nat.le_of_eq HN.out)
      rw [htk]
      go_wp2
      go_ret
      exact ⟨rfl, HB.out⟩
end Go.Proofs.YtkncboinfcnklaaGreatDoor

namespace Go.Proofs.YtkncboinfcnklaaGreatDoor
open Go.RowKit Go.Deep Go.Shelf Go.Proofs.YtkncboinfcnklaaGreatDoor.Mth

theorem tkC_take (l : List Nat) : ∀ i, (l.flatMap tkC).take (i * 2) = (l.take i).flatMap tkC := by
  induction l with
  | nil => intro i; simp
  | cons a l ih =>
    intro i
    cases i with
    | zero => simp
    | succ i =>
      rw [List.flatMap_cons, List.take_succ_cons, List.flatMap_cons, ← ih i]
      show (_ :: _ :: _).take ((i + 1) * 2) = _
      rw [show (i + 1) * 2 = i * 2 + 1 + 1 by omega]
      rfl
theorem tkC_drop (l : List Nat) : ∀ i, (l.flatMap tkC).drop (i * 2) = (l.drop i).flatMap tkC := by
  induction l with
  | nil => intro i; simp
  | cons a l ih =>
    intro i
    cases i with
    | zero => simp
    | succ i =>
      rw [List.flatMap_cons, List.drop_succ_cons, ← ih i]
      show (_ :: _ :: _).drop ((i + 1) * 2) = _
      rw [show (i + 1) * 2 = i * 2 + 1 + 1 by omega]
      rfl

set_option maxRecDepth 100000 in
set_option maxHeartbeats 4000000 in
theorem give_any {w : World} {ρ : Nat → Nat} {B N lb : Nat} {G : Gh} {L : Lg} (h : LogX w ρ B N lb G L) (hB : B ≤ w.heap.size) {q : Nat} (hq : q < L.wks.length) {i : Nat} (hi : i < (L.wks.getD q wk0).list.length) :
    Calls Tryz.prog 278 #[ptrV (G.wb.getD q 0), .int .i64 (i : Int)] w fun e w' => e = .returned (tkV ((L.wks.getD q wk0).list.getD i 0)) ∧ Laid w w' ρ B N lb G L (L.wks.set q ⟨(L.wks.getD q wk0).list.eraseIdx i, (L.wks.getD q wk0).runs, (L.wks.getD q wk0).read⟩) := by
  obtain ⟨a, c, hwl, hc, hm⟩ := own_slice (h.k.lst q hq)
  have hown := h.k.lst q hq
  rw [hwl] at hown
  obtain ⟨g, rfl⟩ := own_some hown (by omega)
  have hblk := h.k.one q hq
  have hl5 := wk_len (h.k.ok q hq)
  obtain ⟨d0, d1⟩ := tkC_at (l := (L.wks.getD q wk0).list) hi
  have d0 := own_get hown d0
  have d1 := own_get hown d1
  obtain ⟨c1, f1⟩ := cellG (j := 1) (u := .slice (some ⟨g, 0, none⟩) (L.wks.getD q wk0).list.length c) hblk (by rw [hwl]; rfl)
  unfold maxLen at hm
  generalize hx : (L.wks.getD q wk0).list.getD i 0 = x at *
  generalize hn : (L.wks.getD q wk0).list.length = n at *
  generalize hb : G.wb.getD q 0 = b at *
  have hbl : b < w.heap.size := (Array.getElem?_eq_some_iff.1 hblk).1
  have hgl := (own_ge hown).2.1
  have e1 : (w.alloc (Obj.cells #[.int .i64 0, .int .i64 0] 137)).cell? ⟨b, 1, none⟩ = some (.slice (some ⟨g, 0, none⟩) n c) := ((below_allocG w _).cell (p := ⟨b, 1, none⟩) hbl).trans c1
  have e2 : (w.alloc (Obj.cells #[.int .i64 0, .int .i64 0] 137)).cell? ⟨g, i * 2, none⟩ = some (.int .i64 (x : Int)) := ((below_allocG w _).cell (p := ⟨g, i * 2, none⟩) hgl).trans d0
  have e3 : (w.alloc (Obj.cells #[.int .i64 0, .int .i64 0] 137)).cell? ⟨g, i * 2 + 1, none⟩ = some (.int .i64 ((x : Int) + 1)) := ((below_allocG w _).cell (p := ⟨g, i * 2 + 1, none⟩) hgl).trans d1
  have hsz : (Tryz.prog.info? 137).map (·.size) = some 2 := by
    have := Tryz.info137
    cases h' : Tryz.prog.info? 137 with
    | none => rw [h'] at this; cases this
    | some i => rw [h'] at this; simp at this; simp [this]
  obtain ⟨W2, hW2⟩ : ∃ W2, W2 = (w.alloc (Obj.cells #[.int .i64 0, .int .i64 0] 137)).alloc (Obj.cells #[.int .i64 (x : Int), .int .i64 ((x : Int) + 1)] 137) := ⟨_, rfl⟩
  have hb2 : Below w.heap.size w W2 := by rw [hW2]; exact ((Below.refl _ w).alloc (Nat.le_refl _) _).alloc (by simp) _
  have hs2 : W2.heap.size = w.heap.size + 2 := by rw [hW2]; simp
  have hn0 : W2.heap[w.heap.size]? = some (Obj.cells #[.int .i64 0, .int .i64 0] 137 (0, 0)) := by
    rw [hW2, _root_.Go.heap_alloc_old _ _ (by simp)]
    exact new_blk w _ _
  have hn1 : W2.heap[w.heap.size + 1]? = some (Obj.cells #[.int .i64 (x : Int), .int .i64 ((x : Int) + 1)] 137 (0, 0)) := by
    have := new_blk (w.alloc (Obj.cells #[.int .i64 0, .int .i64 0] 137)) #[.int .i64 (x : Int), .int .i64 ((x : Int) + 1)] 137
    rw [World.size_alloc] at this
    rw [hW2]
    exact this
  have hown2 : W2.ownsRow B 137 2 (.slice (some ⟨g, 0, none⟩) n c) n ((L.wks.getD q wk0).list.flatMap tkC) := own_same hown (fun g' q' => hb2.block g' (own_block hown q').2.1)
  have hgb : g ≠ b := fun e => by
    obtain ⟨_, _, D, hD⟩ := own_block hown (g := g) rfl
    rw [e] at hD
    exact cells_ne hblk hD (by decide) rfl
  have CD := hide (delTask_any hown2 (by intro u hu; obtain ⟨y, _, hy⟩ := List.mem_flatMap.1 hu; simp [tkC] at hy; rcases hy with rfl | rfl <;> rfl) (i := i) (j := i + 1) (by omega) (by omega))
  rw [tkC_take, tkC_drop, show n - (i + 1 - i) = n - 1 by omega, show ((i + 1 : Nat) : Int) = (i : Int) + 1 by omega] at CD
  have FIN : Hid (∀ wB, wB.ownsRow B 137 2 (.slice (some ⟨g, 0, none⟩) (n - 1) c) (n - 1) (((L.wks.getD q wk0).list.take i).flatMap tkC ++ ((L.wks.getD q wk0).list.drop (i + 1)).flatMap tkC) → W2.grownBy wB (some g) →
      (wB.cell? ⟨b, 1, none⟩ = some (.slice (some ⟨g, 0, none⟩) n c) ∧ wB.frozen? ⟨b, 1, none⟩ = false) ∧ (wB.heap[w.heap.size]? = some (Obj.cells #[.int .i64 0, .int .i64 0] 137 (0, 0)) ∧ wB.heap[w.heap.size + 1]? = some (Obj.cells #[.int .i64 (x : Int), .int .i64 ((x : Int) + 1)] 137 (0, 0))) ∧
      Laid w (((wB.setCell ⟨b, 1, none⟩ (.slice (some ⟨g, 0, none⟩) (n - 1) c)).setCell ⟨w.heap.size, 0, none⟩ (.int .i64 (x : Int))).setCell ⟨w.heap.size, 1, none⟩ (.int .i64 ((x : Int) + 1))) ρ B N lb G L (L.wks.set q ⟨(L.wks.getD q wk0).list.eraseIdx i, (L.wks.getD q wk0).runs, (L.wks.getD q wk0).read⟩)) := by
    intro wB ho hg
    have hkeep : ∀ k, k < w.heap.size + 2 → k ≠ g → wB.heap[k]? = W2.heap[k]? := fun k hk hne => hg.block k (by omega) (fun e => hne (by injection e))
    have hbB : wB.heap[b]? = some (Obj.cells (wkC lb b (L.wks.getD q wk0) (G.wl q)) 139 (0, 0)) := ((hkeep b (by omega) (fun e => hgb e.symm)).trans (hb2.block b hbl)).trans hblk
    have hn0B := (hkeep w.heap.size (by omega) (by omega)).trans hn0
    have hn1B := (hkeep (w.heap.size + 1) (by omega) (by omega)).trans hn1
    refine ⟨cellG (j := 1) hbB (by rw [hwl]; rfl), ⟨hn0B, hn1B⟩, ?_⟩
    have ht := h.wkFin (w' := ((wB.setCell ⟨b, 1, none⟩ (.slice (some ⟨g, 0, none⟩) (n - 1) c)).setCell ⟨w.heap.size, 0, none⟩ (.int .i64 (x : Int))).setCell ⟨w.heap.size, 1, none⟩ (.int .i64 ((x : Int) + 1))) hB hq ⟨(L.wks.getD q wk0).list.eraseIdx i, (L.wks.getD q wk0).runs, (L.wks.getD q wk0).read⟩ (.slice (some ⟨g, 0, none⟩) (n - 1) c)
      ⟨hg.os.trans hb2.os, hg.tape.trans hb2.tape, hg.output.trans hb2.output, by have := hg.size; simp; omega, fun k hk e => by
        rw [set_other (by omega), set_other (by omega), set_other (fun e' => e (Or.inl (by rw [hb]; exact e'))), hkeep k (by omega) (fun e' => e (Or.inr (by rw [hwl, e']; rfl)))]
        exact hb2.block k hk⟩
      (by rw [hb, set_other (by omega), set_other (by omega), setCell_blk hbB]; rfl)
      (by
        have hl : ((L.wks.getD q wk0).list.eraseIdx i).length = n - 1 := by rw [List.length_eraseIdx, if_pos (by omega), hn]
        rw [hl, List.eraseIdx_eq_take_drop_succ, List.flatMap_append]
        refine own_same ho (fun g' e => ?_)
        have e2 : g' = g := by simpa [Value.ownBlock] using e
        rw [e2, set_other (by omega), set_other (by omega), set_other hgb])
      (fun g' e => Or.inl (by rw [hwl]; exact e))
      ⟨⟨fun y hy => (h.k.ok q hq).1.1 y (List.mem_of_mem_eraseIdx hy), (h.k.ok q hq).1.2⟩, (h.k.ok q hq).2.sublist (List.eraseIdx_sublist _ _)⟩
    obtain ⟨ρ', r1, r2, r3, r4⟩ := ht
    exact ⟨⟨ρ', _, r1, r2, r3, r4⟩⟩
  have HW2 := hide hW2
  clear hown2 hown h hblk hwl hb hx hn0 hn1 hb2 hs2 hW2
  go_enter Tryz.func278, Tryz.ntmps278
  go_wp2_with (fail)
  rw [← HW2.out]
  refine CD.out.mono ?_
  rintro e wB ⟨rfl, ho, hg⟩
  obtain ⟨⟨k1, k2⟩, ⟨k3, k4⟩, hL⟩ := FIN.out wB ho hg
  have HL := hide hL
  have hsb : w.heap.size ≠ b := by omega
  have hsb1 : w.heap.size + 1 ≠ b := by omega
  have hld := run_loadVar_row (P := Tryz.prog) (((wB.setCell ⟨b, 1, none⟩ (.slice (some ⟨g, 0, none⟩) (n - 1) c)).setCell ⟨w.heap.size, 0, none⟩ (.int .i64 (x : Int))).setCell ⟨w.heap.size, 1, none⟩ (.int .i64 ((x : Int) + 1))) w.heap.size 137 137 _ _ _ (setCell_blk (setCell_blk ((set_other (by omega)).trans k3))) Tryz.underlying137 rfl hsz
  have HLD := hide hld
  obtain ⟨m3, _⟩ := cell_of (j := 0) (u := .int .i64 (x : Int)) ((set_other (w := wB) (o := 1) (u := .slice (some ⟨g, 0, none⟩) (n - 1) c) hsb1).trans k4) rfl
  obtain ⟨m4, _⟩ := cell_of (j := 1) (u := .int .i64 ((x : Int) + 1)) ((set_other (w := wB) (o := 1) (u := .slice (some ⟨g, 0, none⟩) (n - 1) c) hsb1).trans k4) rfl
  obtain ⟨m0, g0⟩ := cell_of (j := 0) (u := .int .i64 0) ((set_other (w := wB) (o := 1) (u := .slice (some ⟨g, 0, none⟩) (n - 1) c) hsb).trans k3) rfl
  obtain ⟨m1, g1⟩ := cell_of (j := 1) (u := .int .i64 0) ((set_other (w := wB) (o := 1) (u := .slice (some ⟨g, 0, none⟩) (n - 1) c) hsb).trans k3) rfl
  clear hL hld ho hg FIN CD e1 e2 e3 c1 d0 d1 k3 k4
  go_wp2
  refine bodyPost_ret (v := tkV x) ?_ rfl ⟨rfl, HL.out⟩
  have hld := HLD.out
  rw [results_cellG rfl]
  simp [asAddr, Result.andThen, hld, tkV]
end Go.Proofs.YtkncboinfcnklaaGreatDoor

namespace Go.Proofs.YtkncboinfcnklaaGreatDoor
open Go.RowKit Go.Deep Go.Shelf Go.Proofs.YtkncboinfcnklaaGreatDoor.Mth

theorem Same.pre {w w1 w2 : World} {ρ : Nat → Nat} {B N lb : Nat} {G : Gh} {L : Lg} (h : LogX w ρ B N lb G L) (hb : Below w.heap.size w w1) (b4 : Same w1 w2 ρ (fun c => c = 3)) : Same w w2 ρ (fun c => c = 3) := by
  intro g q
  have hl : g < w.heap.size := by
    rcases q with q | q
    · exact (h.lt g (by omega)).1
    · exact isN_lt q
  have e1 := hb.block g hl
  refine (b4 g ?_).trans e1
  rcases q with q | q
  · exact Or.inl q
  · obtain ⟨C, fr, hC⟩ := q
    exact Or.inr ⟨C, fr, e1.trans hC⟩
theorem Laid.pre {w w1 w2 : World} {ρ : Nat → Nat} {B N lb : Nat} {G : Gh} {L : Lg} {ks : List Wk} (h : LogX w ρ B N lb G L) (hb : Below w.heap.size w w1) (h2 : Laid w1 w2 ρ B N lb G L ks) : Laid w w2 ρ B N lb G L ks := by
  obtain ⟨⟨ρ2, wl2, b1, b2, b3, b4⟩⟩ := h2
  exact ⟨⟨ρ2, wl2, b1, LStp.pre hb b2, b3, b4.pre h hb⟩⟩
/-- A block that is not the log's is written. -/
theorem Laid.box {w wA w2 w3 : World} {ρ : Nat → Nat} {B N lb : Nat} {G : Gh} {L : Lg} {ks : List Wk} (h : LogX w ρ B N lb G L) (hb : Below w.heap.size w wA) (h2 : Laid wA w2 ρ B N lb G L ks) {nb : Nat} (hnb : w.heap.size ≤ nb) (hl : nb < wA.heap.size) (hn : ¬ isN wA nb) (ht : Tch (fun k => k = nb) w2 w3) : Laid w w3 ρ B N lb G L ks := by
  have h0 : ρ nb = 0 := by
    apply Classical.byContradiction
    intro q
    have := (h.lt nb q).1
    omega
  obtain ⟨⟨ρ1, wl, a1, a2, a3, a4⟩⟩ := h2
  have hz : ρ1 nb = 0 := a2.old nb hl h0
  have hkk : w2.heap[nb]? = wA.heap[nb]? := a2.tch.block nb hl (fun q => q.1 h0)
  have hn1 : ¬ isN w2 nb := fun ⟨C, fr, hC⟩ => hn ⟨C, fr, by rw [← hkk]; exact hC⟩
  have hoth : ∀ g, (ρ1 g ≠ 0 ∨ isN w2 g) → w3.heap[g]? = w2.heap[g]? := fun g q => by
    refine ht.block g ?_ (fun e => ?_)
    · rcases q with q | q
      · exact (a1.lt g q).1
      · exact isN_lt q
    · subst e
      rcases q with q | q
      · exact q hz
      · exact hn1 q
  have hpre : LStp w w2 ρ ρ1 := LStp.pre hb a2
  have hsm := a4.pre h hb
  refine ⟨⟨ρ1, wl, a1.same hoth ht.size, ⟨hpre.tch.trans ht (fun k hk e => absurd hk (by omega)), hpre.old⟩, a3, fun g q => ?_⟩⟩
  have hl : g < w.heap.size := by
    rcases q with q | q
    · exact (h.lt g (by omega)).1
    · exact isN_lt q
  exact (ht.block g (Nat.lt_of_lt_of_le hl hpre.tch.size) (by omega)).trans (hsm g q)
theorem Laid.keep {w w2 : World} {ρ : Nat → Nat} {B N lb : Nat} {G : Gh} {L : Lg} {ks : List Wk} (h : Laid w w2 ρ B N lb G L ks) {k : Nat} (hk : k < w.heap.size) (h0 : ρ k = 0) : w2.heap[k]? = w.heap[k]? := by
  obtain ⟨⟨ρ1, wl, a1, a2, a3, a4⟩⟩ := h
  exact a2.tch.block k hk (fun q => q.1 h0)
theorem LogX.zero {w : World} {ρ : Nat → Nat} {B N lb : Nat} {G : Gh} {L : Lg} (h : LogX w ρ B N lb G L) {k : Nat} (hk : w.heap.size ≤ k) : ρ k = 0 := by
  apply Classical.byContradiction
  intro q
  have := (h.lt k q).1
  omega
theorem task_size : (Tryz.prog.info? 137).map (·.size) = some 2 := by
  have := Tryz.info137
  cases h' : Tryz.prog.info? 137 with
  | none => rw [h'] at this; cases this
  | some i => rw [h'] at this; simp at this; simp [this]
/-- What is behind a give into a box of the call's own. -/
theorem give_box {w wA w2 : World} {ρ : Nat → Nat} {B N lb : Nat} {G : Gh} {L : Lg} {ks : List Wk} (h : LogX w ρ B N lb G L) (hb : Below w.heap.size w wA) {nb : Nat} (hnb : w.heap.size ≤ nb) (hn0 : wA.heap[nb]? = some (Obj.cells #[.int .i64 0, .int .i64 0] 137 (0, 0))) (h2 : Laid wA w2 ρ B N lb G L ks) (x : Nat) :
    (w2.cell? ⟨nb, 0, none⟩ = some (.int .i64 0) ∧ w2.frozen? ⟨nb, 0, none⟩ = false) ∧ (w2.cell? ⟨nb, 1, none⟩ = some (.int .i64 0) ∧ w2.frozen? ⟨nb, 1, none⟩ = false) ∧
    Hid (Laid w ((w2.setCell ⟨nb, 0, none⟩ (.int .i64 (x : Int))).setCell ⟨nb, 1, none⟩ (.int .i64 ((x : Int) + 1))) ρ B N lb G L ks) ∧
    Hid ((loadVar 137 ⟨nb, 0, none⟩).run Tryz.prog ((w2.setCell ⟨nb, 0, none⟩ (.int .i64 (x : Int))).setCell ⟨nb, 1, none⟩ (.int .i64 ((x : Int) + 1))) = .ok (tkV x) ((w2.setCell ⟨nb, 0, none⟩ (.int .i64 (x : Int))).setCell ⟨nb, 1, none⟩ (.int .i64 ((x : Int) + 1)))) := by
  have hl := (Array.getElem?_eq_some_iff.1 hn0).1
  have hk := (h2.keep hl (h.zero hnb)).trans hn0
  refine ⟨cell_of hk rfl, cell_of hk rfl, ?_, ?_⟩
  · refine Laid.box h hb h2 hnb hl (fun ⟨C, fr, q⟩ => ?_) ⟨rfl, rfl, rfl, by simp, fun k _ e => by rw [set_other e, set_other e]⟩
    rw [hn0] at q
    injection q with q
    injection q with _ q _
    exact absurd q (by decide)
  · exact run_loadVar_row (P := Tryz.prog) _ nb 137 137 _ _ _ (setCell_blk (setCell_blk hk)) Tryz.underlying137 rfl task_size

def era (ks : List Wk) (q i : Nat) : List Wk := ks.set q ⟨(ks.getD q wk0).list.eraseIdx i, (ks.getD q wk0).runs, (ks.getD q wk0).read⟩

set_option maxRecDepth 100000 in
set_option maxHeartbeats 4000000 in
theorem take_own {w : World} {ρ : Nat → Nat} {B N lb : Nat} {G : Gh} {L : Lg} (h : LogX w ρ B N lb G L) (hB : B ≤ w.heap.size) {q : Nat} (hq : q < L.wks.length) (hi : 0 < (L.wks.getD q wk0).list.length) :
    Calls Tryz.prog 257 #[ptrV (G.wb.getD q 0)] w fun e w' => e = .returned (tkV ((L.wks.getD q wk0).list.getD ((L.wks.getD q wk0).list.length - 1) 0)) ∧ Laid w w' ρ B N lb G L (era L.wks q ((L.wks.getD q wk0).list.length - 1)) := by
  obtain ⟨a, c, hwl, hc, hm⟩ := own_slice (h.k.lst q hq)
  have hbA := below_allocG w (Obj.cells #[.int .i64 0, .int .i64 0] 137)
  have hn0 := new_blk w #[.int .i64 0, .int .i64 0] 137
  have hl5 := wk_len (h.k.ok q hq)
  have hA := h.below hbA
  obtain ⟨c1, f1⟩ := cellG (j := 1) (u := .slice a (L.wks.getD q wk0).list.length c) (hA.k.one q hq) (by rw [hwl]; rfl)
  have CG := hide (give_any hA (Nat.le_trans hB hbA.size) hq (i := (L.wks.getD q wk0).list.length - 1) (by omega))
  unfold maxLen at hm
  have FIN := hide (fun w2 ks hL => give_box (w2 := w2) (ks := ks) h hbA (Nat.le_refl _) hn0 hL ((L.wks.getD q wk0).list.getD ((L.wks.getD q wk0).list.length - 1) 0))
  clear hwl hA hbA hn0
  change Hid (Calls _ _ _ _ fun e w' => _ ∧ Laid _ w' ρ B N lb G L (era L.wks q ((L.wks.getD q wk0).list.length - 1))) at CG
  generalize hks : era L.wks q ((L.wks.getD q wk0).list.length - 1) = ks at *
  generalize (L.wks.getD q wk0).list.getD ((L.wks.getD q wk0).list.length - 1) 0 = x at *
  generalize (L.wks.getD q wk0).list.length = n at *
  generalize G.wb.getD q 0 = b at *
  rw [show ((n - 1 : Nat) : Int) = (n : Int) - 1 by omega] at CG
  obtain ⟨W1, hW1⟩ : ∃ W1, W1 = w.alloc (Obj.cells #[.int .i64 0, .int .i64 0] 137) := ⟨_, rfl⟩
  go_enter Tryz.func257, Tryz.ntmps257
  go_wp2_with (first
    | (go_at_call 278; refine CG.out.mono ?_; rintro e w2 ⟨rfl, hL⟩; obtain ⟨⟨k1, k2⟩, ⟨k3, k4⟩, k5, k6⟩ := FIN.out _ _ hL; clear hL))
  refine bodyPost_ret (v := tkV x) ?_ rfl ⟨rfl, k5.out⟩
  have hld := k6.out
  rw [results_cellG rfl]
  simp [asAddr, Result.andThen, hld, tkV]

set_option maxRecDepth 100000 in
set_option maxHeartbeats 4000000 in
theorem take_other {w : World} {ρ : Nat → Nat} {B N lb : Nat} {G : Gh} {L : Lg} (h : LogX w ρ B N lb G L) (hB : B ≤ w.heap.size) {q o : Nat} (hq : q < L.wks.length) (hi : (L.wks.getD q wk0).list.length = 0) (ho : bst L.wks L.wks.length = o) (hio : 0 < (L.wks.getD o wk0).list.length) :
    Calls Tryz.prog 257 #[ptrV (G.wb.getD q 0)] w fun e w' => e = .returned (tkV ((L.wks.getD o wk0).list.getD 0 0)) ∧ Laid w w' ρ B N lb G L (era L.wks o 0) := by
  have ho2 : o < L.wks.length := by rw [← ho]; exact bst_lt _ _ h.k.few.1
  obtain ⟨a, c, hwl, hc, hm⟩ := own_slice (h.k.lst q hq)
  obtain ⟨a2, c2, hwl2, hc2, hm2⟩ := own_slice (h.k.lst o ho2)
  have hbA := below_allocG w (Obj.cells #[.int .i64 0, .int .i64 0] 137)
  have hn0 := new_blk w #[.int .i64 0, .int .i64 0] 137
  have hl5 := wk_len (h.k.ok o ho2)
  have hA := h.below hbA
  rw [hi] at hwl hc
  obtain ⟨c1, f1⟩ := cellG (j := 1) (u := .slice a 0 c) (hA.k.one q hq) (by rw [hwl]; rfl)
  obtain ⟨c0, f0⟩ := cellG (j := 0) (u := ptrV lb) (hA.k.one q hq) rfl
  obtain ⟨c14, _⟩ := cell_of (j := 14) (u := G.wr) hA.b.blk rfl
  obtain ⟨a4, c4, hwr, _, _⟩ := own_slice h.k.row
  have CM := hide (wkMax_any hA.wksRd h.k.few.1 (fun j hj => Nat.le_trans (wk_len (h.k.ok j hj)) (by omega)))
  rw [ho] at CM
  rw [hwr] at c14 CM
  have HLO : Hid (∀ w1, Below (w.alloc (Obj.cells #[.int .i64 0, .int .i64 0] 137)).heap.size (w.alloc (Obj.cells #[.int .i64 0, .int .i64 0] 137)) w1 → w1.cell? ⟨G.wb.getD o 0, 1, none⟩ = some (.slice a2 (L.wks.getD o wk0).list.length c2) ∧
      Calls Tryz.prog 278 #[ptrV (G.wb.getD o 0), .int .i64 ((0 : Nat) : Int)] w1 fun e w2 => e = .returned (tkV ((L.wks.getD o wk0).list.getD 0 0)) ∧ Laid w1 w2 ρ B N lb G L (era L.wks o 0)) := fun w1 hb1 =>
    ⟨(cellG (j := 1) ((hA.below hb1).k.one o ho2) (by rw [hwl2]; rfl)).1, give_any (hA.below hb1) (Nat.le_trans hB (Nat.le_trans hbA.size hb1.size)) ho2 (i := 0) (by omega)⟩
  unfold maxLen at hm hm2
  have FIN := hide (fun w1 w2 ks (hb1 : Below (w.alloc (Obj.cells #[.int .i64 0, .int .i64 0] 137)).heap.size (w.alloc (Obj.cells #[.int .i64 0, .int .i64 0] 137)) w1) hL => give_box (wA := w1) (w2 := w2) (ks := ks) h (hbA.trans (hb1.mono hbA.size)) (Nat.le_refl _) ((hb1.block w.heap.size (by simp)).trans hn0) hL ((L.wks.getD o wk0).list.getD 0 0))
  clear hwl hwl2 hA hbA hn0 hwr ho
  generalize hks : era L.wks o 0 = ks at *
  generalize (L.wks.getD o wk0).list.getD 0 0 = x at *
  generalize (L.wks.getD o wk0).list.length = n at *
  generalize G.wb.getD q 0 = b at *
  generalize G.wb.getD o 0 = bo at *
  generalize G.wb.length = nw at *
  have hne : ¬ ((n : Int) = 0) := by omega
  go_enter Tryz.func257, Tryz.ntmps257
  go_wp2_with (first
    | (go_at_call 279; refine CM.out.mono ?_; rintro e w1 ⟨rfl, hb1⟩; have HB1 := hide hb1; obtain ⟨d1, hg⟩ := HLO.out _ hb1; rw [show (((0 : Nat) : Int)) = 0 from rfl] at hg; have CG := hide hg; clear hb1 hg)
    | (go_at_call 278; refine CG.out.mono ?_; rintro e w2 ⟨rfl, hL⟩; obtain ⟨⟨k1, k2⟩, ⟨k3, k4⟩, k5, k6⟩ := FIN.out _ _ _ HB1.out hL; clear hL))
  refine bodyPost_ret (v := tkV x) ?_ rfl ⟨rfl, k5.out⟩
  have hld := k6.out
  rw [results_cellG rfl]
  simp [asAddr, Result.andThen, hld, tkV]

set_option maxRecDepth 100000 in
set_option maxHeartbeats 4000000 in
theorem take_none {w : World} {ρ : Nat → Nat} {B N lb : Nat} {G : Gh} {L : Lg} (h : LogX w ρ B N lb G L) {q o : Nat} (hq : q < L.wks.length) (hi : (L.wks.getD q wk0).list.length = 0) (ho : bst L.wks L.wks.length = o) (hio : (L.wks.getD o wk0).list.length = 0) :
    Calls Tryz.prog 257 #[ptrV (G.wb.getD q 0)] w fun e w' => e = .returned (.agg #[.int .i64 0, .int .i64 0]) ∧ Below w.heap.size w w' := by
  have ho2 : o < L.wks.length := by rw [← ho]; exact bst_lt _ _ h.k.few.1
  obtain ⟨a, c, hwl, hc, hm⟩ := own_slice (h.k.lst q hq)
  obtain ⟨a2, c2, hwl2, hc2, hm2⟩ := own_slice (h.k.lst o ho2)
  have hbA := below_allocG w (Obj.cells #[.int .i64 0, .int .i64 0] 137)
  have hn0 := new_blk w #[.int .i64 0, .int .i64 0] 137
  have hA := h.below hbA
  rw [hi] at hwl hc
  rw [hio] at hwl2 hc2
  obtain ⟨c1, f1⟩ := cellG (j := 1) (u := .slice a 0 c) (hA.k.one q hq) (by rw [hwl]; rfl)
  obtain ⟨c0, f0⟩ := cellG (j := 0) (u := ptrV lb) (hA.k.one q hq) rfl
  obtain ⟨c14, _⟩ := cell_of (j := 14) (u := G.wr) hA.b.blk rfl
  obtain ⟨a4, c4, hwr, _, _⟩ := own_slice h.k.row
  have CM := hide (wkMax_any hA.wksRd h.k.few.1 (fun j hj => Nat.le_trans (wk_len (h.k.ok j hj)) (by omega)))
  rw [ho] at CM
  rw [hwr] at c14 CM
  have HLO : Hid (∀ w1, Below (w.alloc (Obj.cells #[.int .i64 0, .int .i64 0] 137)).heap.size (w.alloc (Obj.cells #[.int .i64 0, .int .i64 0] 137)) w1 → w1.cell? ⟨G.wb.getD o 0, 1, none⟩ = some (.slice a2 0 c2) ∧ w1.heap[w.heap.size]? = some (Obj.cells #[.int .i64 0, .int .i64 0] 137 (0, 0)) ∧ Below w.heap.size w w1) := fun w1 hb1 =>
    ⟨(cellG (j := 1) ((hA.below hb1).k.one o ho2) (by rw [hwl2]; rfl)).1, (hb1.block w.heap.size (by simp)).trans hn0, hbA.trans (hb1.mono hbA.size)⟩
  unfold maxLen at hm hm2
  clear hwl hwl2 hA hbA hn0 hwr ho h
  generalize G.wb.getD q 0 = b at *
  generalize G.wb.getD o 0 = bo at *
  generalize G.wb.length = nw at *
  go_enter Tryz.func257, Tryz.ntmps257
  go_wp2_with (first
    | (go_at_call 279; refine CM.out.mono ?_; rintro e w1 ⟨rfl, hb1⟩; obtain ⟨d1, k3, k4⟩ := HLO.out _ hb1; obtain ⟨m0, g0⟩ := cell_of (j := 0) (u := .int .i64 0) k3 rfl; obtain ⟨m1, g1⟩ := cell_of (j := 1) (u := .int .i64 0) k3 rfl; have K3 := hide k3; have K4 := hide k4; clear k3 k4 hb1))
  refine bodyPost_ret (v := .agg #[.int .i64 0, .int .i64 0]) ?_ rfl ⟨rfl, below_set (below_set K4.out (Nat.le_refl _)) (Nat.le_refl _)⟩
  have hld := run_loadVar_row (P := Tryz.prog) _ w.heap.size 137 137 _ _ _ (setCell_blk (j := 1) (v := .int .i64 0) (setCell_blk (j := 0) (v := .int .i64 0) K3.out)) Tryz.underlying137 rfl task_size
  rw [results_cellG rfl]
  simp [asAddr, Result.andThen, hld]
end Go.Proofs.YtkncboinfcnklaaGreatDoor
