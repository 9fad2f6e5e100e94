import Derived.Test.YtkncboinfcnklabGreatDoorQ19
namespace Go.Proofs.YtkncboinfcnklabGreatDoor
open Go.RowKit Go.Deep Go.Shelf Go.Proofs.YtkncboinfcnklabGreatDoor.Mth

set_option maxRecDepth 100000 in
set_option maxHeartbeats 1000000 in
theorem poll_no {w : World} {ρ : Nat → Nat} {B N lb : Nat} {G : Gh} {L : Lg} (h : LogX w ρ B N lb G L) {x : Int} (hw : wf64 x) (hn : L.tls x = none) :
    Calls Tryz.prog 42 #[ptrV lb, .int .i64 x] w fun e w' => e = .returned (.tuple #[.slice none 0 0, .int .i64 8]) ∧ Below w.heap.size w w' := by
  have hlk := h.t.map.look hw
  rw [hn] at hlk
  simp only [tlOr, Option.isSome_none] at hlk
  obtain ⟨c15, _⟩ := cell_of (j := 15) (u := .map (some G.tm)) h.b.blk rfl
  clear h hn
  go_enter Tryz.func42, Tryz.ntmps42
  go_wp2_with fail
  go_ret2
  exact ⟨rfl, below_allocG _ _⟩

/-- All segments, and the memory behind them. -/
theorem LogAt.allSegs {w : World} {ρ : Nat → Nat} {B N lb : Nat} {G : Gh} {L : Lg} (h : LogAt w ρ B N lb G L) (hs : ∀ es ∈ segs L.lev ++ [L.mem], es.length ≤ 1048576 ∧ Sqs es) :
    (sgs G.bs (downTo 6) ++ [G.ms]).length = (segs L.lev ++ [L.mem]).length ∧ ∀ j, j < (segs L.lev ++ [L.mem]).length → (∃ ev mb, SegAt w B ((sgs G.bs (downTo 6) ++ [G.ms]).getD j 0) ((segs L.lev ++ [L.mem]).getD j []) ev mb) ∧ ((segs L.lev ++ [L.mem]).getD j []).length ≤ 1048576 ∧ Sqs ((segs L.lev ++ [L.mem]).getD j []) := by
  obtain ⟨ps, hp1, hp2, hp3⟩ := h.x.v.pairs
  have hlen : (sgs G.bs (downTo 6)).length = (segs L.lev).length := by rw [← hp1, ← hp2, List.length_map, List.length_map]
  refine ⟨by rw [List.length_append, List.length_append, hlen]; rfl, fun j hj => ?_⟩
  have hm : (segs L.lev ++ [L.mem]).getD j [] ∈ segs L.lev ++ [L.mem] := by
    rw [← List.getElem_eq_getD (h := hj)]
    exact List.getElem_mem hj
  refine ⟨?_, hs _ hm⟩
  by_cases hlt : j < (segs L.lev).length
  · have hjp : j < ps.length := by rw [← hp2, List.length_map] at hlt; exact hlt
    have e1 : (sgs G.bs (downTo 6) ++ [G.ms]).getD j 0 = (ps.getD j (0, [])).1 := by
      rw [List.getD, List.getElem?_append_left (by omega), ← hp1, List.getElem?_map, List.getElem?_eq_getElem hjp]
      rw [← List.getElem_eq_getD (h := hjp)]
      rfl
    have e2 : (segs L.lev ++ [L.mem]).getD j [] = (ps.getD j (0, [])).2 := by
      rw [List.getD, List.getElem?_append_left hlt, ← hp2, List.getElem?_map, List.getElem?_eq_getElem hjp]
      rw [← List.getElem_eq_getD (h := hjp)]
      rfl
    have hmem : ps.getD j (0, []) ∈ ps := by rw [← List.getElem_eq_getD (h := hjp)]; exact List.getElem_mem hjp
    rw [e1, e2]
    exact ⟨_, _, hp3 _ hmem⟩
  · have hje : j = (segs L.lev).length := by rw [List.length_append, List.length_singleton] at hj; omega
    subst hje
    have e1 : (sgs G.bs (downTo 6) ++ [G.ms]).getD (segs L.lev).length 0 = G.ms := by rw [← hlen]; simp [List.getD]
    have e2 : (segs L.lev ++ [L.mem]).getD (segs L.lev).length [] = L.mem := by simp [List.getD]
    rw [e1, e2]
    exact ⟨_, _, h.m.seg⟩

set_option maxRecDepth 100000 in
set_option maxHeartbeats 4000000 in
theorem poll_yes {w : World} {ρ : Nat → Nat} {B N lb : Nat} {G : Gh} {L : Lg} (h : LogAt w ρ B N lb G L) {x : Int} (hw : wf64 x) {y : ByteArray} {p : Nat} (hn : L.tls x = some (y, p)) (hy : y.size ≤ maxLen) (hb1 : 1 ≤ L.batch) (hb8 : L.batch ≤ 8) (hl : ∀ i, i < 6 → (L.lev i).length ≤ 500000)
    (hs : ∀ es ∈ segs L.lev ++ [L.mem], es.length ≤ 1048576 ∧ Sqs es) (hN : N < maxLen) (hq : ∀ e ∈ rdT y p L.batch (segs L.lev ++ [L.mem]), 0 ≤ e.seq ∧ e.seq ≤ 1000000000000) :
    Calls Tryz.prog 42 #[ptrV lb, .int .i64 x] w fun e w' => ∃ v, e = .returned (.tuple #[v, .int .i64 0]) ∧ TStp w w' ρ B (N + 1) lb G { L with tls := fun z => if z = x then some (y, plc (rdT y p L.batch (segs L.lev ++ [L.mem])) L.batch L.count) else L.tls z } ∧ w'.ownsRow w.heap.size 49 3 v (rdT y p L.batch (segs L.lev ++ [L.mem])).length ((rdT y p L.batch (segs L.lev ++ [L.mem])).flatMap eC) := by
  obtain ⟨i0, hi0, hz0, hz1, hz2⟩ := info_parts Tryz.info70
  have hlk := h.x.t.map.look hw
  rw [hn] at hlk
  simp only [tlOr, tlV, Option.isSome_some] at hlk
  obtain ⟨c15, _⟩ := cell_of (j := 15) (u := .map (some G.tm)) h.x.b.blk rfl
  have hb0 := below_allocG w (Obj.cells #[.string y, .int .i64 (p : Int)] 112)
  have hk0 := new_blk w #[.string y, .int .i64 (p : Int)] 112
  obtain ⟨w1, hw1⟩ : ∃ w1, w1 = w.alloc (Obj.cells #[.string y, .int .i64 (p : Int)] 112) := ⟨_, rfl⟩
  rw [← hw1] at hb0 hk0
  have h1 := h.below hb0
  obtain ⟨nb, hnb⟩ : ∃ nb, nb = w.heap.size := ⟨_, rfl⟩
  rw [← hnb] at hk0
  have hnlt : nb < w1.heap.size := (Array.getElem?_eq_some_iff.1 hk0).1
  have CK : Hid (∀ W, Below w1.heap.size w1 W → W.cell? ⟨nb, 0, none⟩ = some (.string y) ∧ W.cell? ⟨nb, 1, none⟩ = some (.int .i64 (p : Int)) ∧ W.cell? ⟨lb, 7, none⟩ = some (ptrV G.ms) ∧ W.cell? ⟨lb, 5, none⟩ = some (.int .i64 (L.batch : Int))) := fun W hb =>
    ⟨(cell_of (j := 0) ((hb.block nb hnlt).trans hk0) rfl).1, (cell_of (j := 1) ((hb.block nb hnlt).trans hk0) rfl).1, (cell_of (j := 7) (h1.x.below hb).b.blk rfl).1, (cell_of (j := 5) (h1.x.below hb).b.blk rfl).1⟩
  have CS : Hid (∀ W, Below w1.heap.size w1 W → Calls Tryz.prog 29 #[ptrV lb] W fun e w' => ∃ v, e = .returned v ∧ w'.ownsRow W.heap.size 70 1 v (sgs G.bs (downTo 6)).length ((sgs G.bs (downTo 6)).map ptrV) ∧ Below W.heap.size W w') := fun W hb => segments_any (h1.x.below hb) hl
  have hlen := (h1.allSegs hs).1
  have CR : Hid (∀ W v n, Below w1.heap.size w1 W → n = (sgs G.bs (downTo 6)).length + 1 → W.ownsRow w1.heap.size 70 1 v n ((sgs G.bs (downTo 6)).map ptrV ++ [ptrV G.ms]) → Calls Tryz.prog 69 #[.agg #[.string y, .int .i64 (p : Int)], v, .int .i64 (L.batch : Int)] W fun e w' => ∃ v', e = .returned v' ∧ CurE w1 w' v' (rdT y p L.batch (segs L.lev ++ [L.mem]))) := by
    intro W v n hb e hr
    have hr' : W.ownsRow w1.heap.size 70 1 v (sgs G.bs (downTo 6) ++ [G.ms]).length ((sgs G.bs (downTo 6) ++ [G.ms]).map ptrV) := by
      rw [List.map_append, List.length_append, List.length_singleton, ← e]
      exact hr
    refine (readT_any (B := B) y hy p L.batch (by omega) (rdP_own hr') hlen ((h1.below hb).allSegs hs).2).mono ?_
    rintro e w' ⟨v', rfl, hc⟩
    exact ⟨v', rfl, CurE.pre hb hc⟩
  have CN : Hid (∀ W, Below w1.heap.size w1 W → W.cell? ⟨lb, 6, none⟩ = some (ptrV G.jb) ∧ Calls Tryz.prog 46 #[ptrV G.jb] W fun e w' => e = .returned (.int .i64 (L.count : Int)) ∧ w' = W) := fun W hb => ⟨(cell_of (j := 6) (h1.x.below hb).b.blk rfl).1, jNext_any (h1.x.below hb).j.j⟩
  have hsl : (sgs G.bs (downTo 6)).length ≤ 3000000 := by
    have e1 : (sgs G.bs (downTo 6)).length = (segs L.lev).length := by rw [List.length_append, List.length_append] at hlen; simp at hlen; exact hlen
    rw [e1, segs_eq]
    simp only [List.length_append]
    have q0 := hl 0 (by omega); have q1 := hl 1 (by omega); have q2 := hl 2 (by omega); have q3 := hl 3 (by omega); have q4 := hl 4 (by omega); have q5 := hl 5 (by omega)
    omega
  have hrn : ρ nb = 0 := h.free (by omega)
  have H1 := hide h1
  have HB0 := hide hb0
  have HK0 := hide hk0
  have HW1 := hide hw1
  have HQ := hide hq
  have HTL := rdT_len y p L.batch (segs L.lev ++ [L.mem])
  generalize hTT : rdT y p L.batch (segs L.lev ++ [L.mem]) = told at *
  generalize hSG : sgs G.bs (downTo 6) = sb at *
  clear h h1 hl hs hq hTT hSG hlen hk0 hb0
  go_enter Tryz.func42, Tryz.ntmps42
  go_wp2_with fail
  rw [← HW1.out, ← hnb]
  have HNB := hide hnb
  clear hnb hw1
  obtain ⟨k0, k1, k7, k5⟩ := CK.out w1 (Below.refl _ _)
  go_cut [8] from 9 (fun v wx => CurE w1 wx v told)
  case first =>
    go_region_held3 (fun w' => w'.cell? ⟨nb, 0, none⟩ = some (.string y) ∧ w'.cell? ⟨nb, 1, none⟩ = some (.int .i64 (p : Int)) ∧ w'.cell? ⟨lb, 7, none⟩ = some (ptrV G.ms) ∧ w'.cell? ⟨lb, 5, none⟩ = some (.int .i64 (L.batch : Int))) (first | exact ⟨k0, k1, k7, k5⟩ | exact ⟨cellA k0, cellA k1, cellA k7, cellA k5⟩ | exact ⟨m0, m1, m7, m5⟩ | exact ⟨cellA m0, cellA m1, cellA m7, cellA m5⟩ | exact ⟨r0, r1, r7, r5⟩ | exact ⟨q0, q1, q7, q5⟩ | fail)
      (first
        | (go_at_call 29; refine (CS.out _ (drewB w1)).mono ?_; rintro e w2 ⟨sv, rfl, ho2, hb2⟩; have hB2 := below_drew1 hb2; obtain ⟨m0, m1, m7, m5⟩ := CK.out w2 hB2; have HB2 := hide hB2; have HO2 := hide ho2; clear hb2 hB2 ho2)
        | (go_at_call 29; refine (CS.out _ ((drewB w1).trans ((below_allocG w1.drew (Obj.cells #[ptrV G.ms] 70)).mono (Nat.le_refl _)))).mono ?_; rintro e w2 ⟨sv, rfl, ho2, hb2⟩; have hB2 : Below w1.heap.size w1 w2 := ((drewB w1).trans ((below_allocG w1.drew (Obj.cells #[ptrV G.ms] 70)).mono (Nat.le_refl _))).trans (hb2.mono (by simp)); obtain ⟨m0, m1, m7, m5⟩ := CK.out w2 hB2; have HB2 := hide hB2; have HO2 := hide (own_base ho2 (show w1.heap.size ≤ _ by simp)); have HNW := hide (fun j u hj => ((hb2.cell (p := (⟨w1.heap.size, 0, none⟩ : Addr).add j) (add_lt w1 _ j)).trans (cells_new w1.drew #[ptrV G.ms] 70 [ptrV G.ms] rfl j u hj))); clear hb2 hB2 ho2)
        | (refine step_own _ rfl _ _ 68 rfl w1.heap.size 70 i0 (.pointer none) 1 8 Tryz.underlying68 hi0 hz0 hz1 hz2 rfl (by decide) _ _ _ rfl (HO2.out.alloc _) ⟨w2.heap.size, 0, none⟩ 1 1 [ptrV G.ms] rfl rfl (cells_new _ _ _ _ rfl) (by intro u hu; simp at hu; subst hu; rfl) (by unfold maxLen; omega) (by omega) (by have := HB2.out.size; simp; omega) ?_; intro v5 w5 hown5 hgrow5; have hB5 : Below w1.heap.size w1 w5 := below_grown (HB2.out.trans ((below_allocG w2 _).mono HB2.out.size)) (HO2.out.alloc _) (Nat.le_refl _) hgrow5; obtain ⟨r0, r1, r7, r5⟩ := CK.out w5 hB5; have HB5 := hide hB5; have HO5 := hide hown5; clear hown5 hgrow5 hB5)
        | (refine step_own _ rfl _ _ 68 rfl w1.heap.size 70 i0 (.pointer none) 1 8 Tryz.underlying68 hi0 hz0 hz1 hz2 rfl (by decide) _ _ _ rfl HO2.out ⟨w1.heap.size, 0, none⟩ 1 1 [ptrV G.ms] rfl rfl HNW.out (by intro u hu; simp at hu; subst hu; rfl) (by unfold maxLen; omega) (by omega) (by have := HB2.out.size; simp; omega) ?_; intro v5 w5 hown5 hgrow5; have hB5 : Below w1.heap.size w1 w5 := below_grown HB2.out HO2.out (Nat.le_refl _) hgrow5; obtain ⟨r0, r1, r7, r5⟩ := CK.out w5 hB5; have HB5 := hide hB5; have HO5 := hide hown5; clear hown5 hgrow5 hB5)
        | (go_at_call 69; refine (CR.out _ _ _ HB5.out rfl HO5.out).mono ?_; rintro e w6 ⟨v6, rfl, hc6⟩; obtain ⟨q0, q1, q7, q5⟩ := CK.out w6 hc6.1; have HC6 := hide hc6; clear hc6))
    all_goals (go_wp2_with fail; go_meet; exact HC6.out)
  case rest =>
    have hcw := hcut.1
    have hown := hcut.2
    have hkc : wc.heap[nb]? = some (Obj.cells #[.string y, .int .i64 (p : Int)] 112 (0, 0)) := (hcw.block nb hnlt).trans HK0.out
    have PUT : Hid (∀ (W : World) (q : Nat), Tch (fun k => k = nb) wc W → ∃ W2, (Instr.mapUpdate 76 (.map (some G.tm)) (.int .i64 x) (.agg #[.string y, .int .i64 (q : Int)])).run Tryz.prog W = .ok () W2 ∧ TStp w W2 ρ B (N + 1) lb G { L with tls := fun z => if z = x then some (y, q) else L.tls z } ∧ W2.ownsRow w.heap.size 49 3 u8 told.length (told.flatMap eC) ∧ W.cell? ⟨lb, 15, none⟩ = some (.map (some G.tm)) ∧ W2.cell? ⟨lb, 15, none⟩ = some (.map (some G.tm)) ∧ W2.cell? ⟨nb, 0, none⟩ = W.cell? ⟨nb, 0, none⟩ ∧ W2.cell? ⟨nb, 1, none⟩ = W.cell? ⟨nb, 1, none⟩) := by
      intro W q hT
      have hc := H1.out.below hcw
      have hnn : ¬ isN wc nb := fun ⟨C, fr, e⟩ => by rw [hkc] at e; injection e with e; injection e with _ e _; exact absurd e (by decide)
      have hW : LogAt W ρ B N lb G L := hc.same (fun g hg => hT.block g (by
          rcases hg with hg | hg
          · exact (hc.x.lt g hg).1
          · exact isN_lt hg) (fun e => by
          rcases hg with hg | hg
          · rw [e] at hg; exact hg hrn
          · rw [e] at hg; exact hnn hg)) hT.size
      have hBW : Below w.heap.size w W := below_tch (HB0.out.trans (hcw.mono HB0.out.size)) hT (fun k e => by rw [e, HNB.out]; exact Nat.le_refl _) (Nat.le_trans HB0.out.size hcw.size)
      have hrow : W.ownsRow w1.heap.size 49 3 u8 told.length (told.flatMap eC) := own_same hown (fun g hg => hT.block g (own_block hown hg).2.1 (fun e => by
        obtain ⟨_, _, D, hD⟩ := own_block hown hg
        rw [e, hkc] at hD
        injection hD with hD
        injection hD with _ hD _
        exact absurd hD (by decide)))
      obtain ⟨W2, hr, ht2, hg⟩ := hW.x.t.map.put hw hN (y, q)
      rw [hn, if_pos (by simp)] at ht2
      have hst := hW.tStep hg ht2
      have hne : nb ≠ G.tm := fun e => by
        have := hc.x.t.rl
        rw [← e] at this
        omega
      have hlt : nb < W.heap.size := Nat.lt_of_lt_of_le hnlt (Nat.le_trans hcw.size hT.size)
      have hcn : ∀ j, W2.cell? ⟨nb, j, none⟩ = W.cell? ⟨nb, j, none⟩ := fun j => World.cell?_of_block (w := W) (a := ⟨nb, j, none⟩) (hg.block nb hlt (fun e => hne (by injection e)))
      refine ⟨W2, hr, hst.pre hBW, own_base (hrow.kept hg ?_) HB0.out.size, (cell_of (j := 15) hW.x.b.blk rfl).1, (cell_of (j := 15) hst.log.x.b.blk rfl).1, hcn 0, hcn 1⟩
      cases qv : u8.ownBlock with
      | none => exact Or.inl rfl
      | some g =>
        refine Or.inr (fun e => ?_)
        injection e with e
        obtain ⟨_, _, D, hD⟩ := own_block hrow qv.symm
        obtain ⟨D', n', ⟨es, c, hb', _⟩, _⟩ := hW.x.t.map
        rw [e, hb'] at hD
        cases hD
    obtain ⟨va, vc, rfl, hvc, hvm⟩ := own_slice hown
    unfold maxLen at hvm
    obtain ⟨k6, hNx⟩ := CN.out wc hcw
    have k5c := (CK.out wc hcw).2.2.2
    obtain ⟨j0, _⟩ := cell_of (j := 0) (u := .string y) hkc rfl
    obtain ⟨j1, f1⟩ := cell_of (j := 1) (u := .int .i64 (p : Int)) hkc rfl
    have HNX := hide hNx
    have HOWN := hide hown
    have HKC := hide hkc
    have HPL : Hid (plc told L.batch L.count = if told.length = L.batch then ((told.getD (L.batch - 1) e0).seq + 1).toNat else L.count) := rfl
    have hlbn : lb ≠ nb := fun e => by
      have := H1.out.x.b.rl
      rw [e] at this
      omega
    clear hcut hcw hown hkc hNx CN CK CR CS H1 HB0 HK0 HW1 c15 hlk k0 k1 k7 k5 hrn
    have hb3 : (wc.setCell ⟨nb, 1, none⟩ (.int .i64 (L.count : Int))).heap[nb]? = some (Obj.cells #[.string y, .int .i64 (L.count : Int)] 112 (0, 0)) := setCell_blk HKC.out
    have k5' : (wc.setCell ⟨nb, 1, none⟩ (.int .i64 (L.count : Int))).cell? ⟨lb, 5, none⟩ = some (.int .i64 (L.batch : Int)) := (World.cell?_of_block (w := wc) (a := ⟨lb, 5, none⟩) (set_other hlbn)).trans k5c
    by_cases hfull : told.length = L.batch
    · rw [if_pos hfull] at HPL
      have hpos : 0 < told.length := by omega
      obtain ⟨g, rfl⟩ := own_some HOWN.out hpos
      have hrow3 := own_set_other (o := 1) (y := .int .i64 (L.count : Int)) HOWN.out HKC.out (by decide)
      obtain ⟨d0, _, _⟩ := own_en hrow3 rfl (k := told.length - 1) (by omega)
      have hmem : told.getD (told.length - 1) e0 ∈ told := by rw [← List.getElem_eq_getD (h := by omega)]; exact List.getElem_mem _
      obtain ⟨q0, q1⟩ := HQ.out _ hmem
      have hk : ∃ k, told.length = k + 1 := ⟨told.length - 1, by omega⟩
      obtain ⟨k, hk⟩ := hk
      rw [hk, Nat.add_sub_cancel] at d0 hmem
      have HPL2 : Hid (plc told L.batch L.count = ((told.getD k e0).seq + 1).toNat) := by
        show _ = _
        rw [HPL.out, show L.batch - 1 = k by omega]
      generalize hsq : (told.getD k e0).seq = sq at *
      have hsn : ((sq + 1).toNat : Int) = sq + 1 := by rw [hk, Nat.add_sub_cancel, hsq] at q0 q1; omega
      have hq1 : sq ≤ 1000000000000 := by rw [hk, Nat.add_sub_cancel, hsq] at q1; exact q1
      have hq0 : 0 ≤ sq := by rw [hk, Nat.add_sub_cancel, hsq] at q0; exact q0
      obtain ⟨W3, hW3⟩ : ∃ W3, W3 = (wc.setCell ⟨nb, 1, none⟩ (.int .i64 (L.count : Int))).setCell ⟨nb, 1, none⟩ (.int .i64 (sq + 1)) := ⟨_, rfl⟩
      have hT : Tch (fun k => k = nb) wc W3.drew := ⟨by rw [hW3]; rfl, by rw [hW3]; rfl, by rw [hW3]; rfl, by rw [hW3]; simp [World.drew], fun k _ hne => by rw [hW3]; exact (set_other hne).trans (set_other hne)⟩
      obtain ⟨W2, hrun, hT2, hrow2, d15, e15, e0', e1'⟩ := PUT.out _ (sq + 1).toNat hT
      rw [hsn] at hrun
      obtain ⟨_, f1'⟩ := cell_of (j := 1) (u := .int .i64 (L.count : Int)) hb3 rfl
      have hb4 : W3.heap[nb]? = some (Obj.cells #[.string y, .int .i64 (sq + 1)] 112 (0, 0)) := by rw [hW3]; exact setCell_blk hb3
      obtain ⟨l0, _⟩ := cell_of (j := 0) (u := .string y) hb4 rfl
      obtain ⟨l1, _⟩ := cell_of (j := 1) (u := .int .i64 (sq + 1)) hb4 rfl
      obtain ⟨m1, _⟩ := cell_of (j := 1) (u := .int .i64 (L.count : Int)) hb3 rfl
      have hlenI : (told.length : Int) = (L.batch : Int) := by omega
      have HW3 := hide hW3
      have HT2 := hide hT2
      have HROW2 := hide hrow2
      have hlk1 : (told.length : Int) - 1 = (k : Int) := by omega
      clear hT hT2 hrow2 hrow3 hb4 hW3 PUT HQ hmem hsn q0 q1 hsq
      have d15' : W3.cell? ⟨lb, 15, none⟩ = some (.map (some G.tm)) := d15
      rw [hk] at hlenI hvc ⊢
      have n0 := e0'.trans l0
      have n1 := e1'.trans l1
      have HK := hide hk
      rw [hk] at hfull
      clear hk hlk1 HTL hlenI
      rw [← hfull] at k5' k5c
      clear hfull
      have hkk : ((k + 1 : Nat) : Int) - 1 = (k : Int) := by omega
      go_upto_region 8 with (first | (go_at_call 46; refine HNX.out.mono ?_; rintro e w' ⟨rfl, rfl⟩))
      rw [← HW3.out]
      go_region_held3 (fun w' => w'.cell? ⟨lb, 15, none⟩ = some (.map (some G.tm)) ∧ w'.cell? ⟨nb, 0, none⟩ = some (.string y) ∧ w'.cell? ⟨nb, 1, none⟩ = some (.int .i64 (sq + 1))) (first | exact ⟨d15', l0, l1⟩ | exact ⟨e15, n0, n1⟩) (fail)
      go_wp2_with fail
      go_ret2
      refine ⟨_, rfl, ?_, ?_⟩
      · rw [HPL2.out]; exact HT2.out
      · have := HROW2.out; rwa [HK.out] at this ⊢
    · rw [if_neg hfull] at HPL
      have hlenI : ¬ (told.length : Int) = (L.batch : Int) := by omega
      obtain ⟨W3, hW3⟩ : ∃ W3, W3 = wc.setCell ⟨nb, 1, none⟩ (.int .i64 (L.count : Int)) := ⟨_, rfl⟩
      have hT : Tch (fun k => k = nb) wc W3.drew := ⟨by rw [hW3]; rfl, by rw [hW3]; rfl, by rw [hW3]; rfl, by rw [hW3]; simp [World.drew], fun k _ hne => by rw [hW3]; exact set_other hne⟩
      obtain ⟨W2, hrun, hT2, hrow2, d15, e15, e0', e1'⟩ := PUT.out _ L.count hT
      have d15' : W3.cell? ⟨lb, 15, none⟩ = some (.map (some G.tm)) := d15
      rw [← hW3] at hb3
      obtain ⟨l0, _⟩ := cell_of (j := 0) (u := .string y) hb3 rfl
      obtain ⟨l1, _⟩ := cell_of (j := 1) (u := .int .i64 (L.count : Int)) hb3 rfl
      have HW3 := hide hW3
      have HT2 := hide hT2
      have HROW2 := hide hrow2
      clear hT hT2 hrow2 hb3 hW3 PUT HQ d15 hfull
      have n0 := e0'.trans l0
      have n1 := e1'.trans l1
      go_upto_region 8 with (first | (go_at_call 46; refine HNX.out.mono ?_; rintro e w' ⟨rfl, rfl⟩))
      rw [← HW3.out]
      go_region_held3 (fun w' => w'.cell? ⟨lb, 15, none⟩ = some (.map (some G.tm)) ∧ w'.cell? ⟨nb, 0, none⟩ = some (.string y) ∧ w'.cell? ⟨nb, 1, none⟩ = some (.int .i64 (L.count : Int))) (first | exact ⟨d15', l0, l1⟩ | exact ⟨e15, n0, n1⟩) (fail)
      go_wp2_with fail
      go_ret2
      exact ⟨_, rfl, by rw [HPL.out]; exact HT2.out, HROW2.out⟩
end Go.Proofs.YtkncboinfcnklabGreatDoor

namespace Go.Proofs.YtkncboinfcnklabGreatDoor
open Go.RowKit Go.Deep Go.Shelf Go.Proofs.YtkncboinfcnklabGreatDoor.Mth

/-- May a configuration be? -/
def cfgB (c0 c1 c2 c3 c4 c5 : Int) : Bool := decide (1 ≤ c0 ∧ c0 ≤ 8) && (decide (2 ≤ c1 ∧ c1 ≤ 4) && (decide (0 ≤ c2 ∧ c2 ≤ 4) && (decide (1 ≤ c3 ∧ c3 ≤ 4) && (decide (1 ≤ c4 ∧ c4 ≤ 1000000) && decide (1 ≤ c5 ∧ c5 ≤ 8)))))
set_option maxRecDepth 100000 in
set_option maxHeartbeats 2000000 in
theorem isConfig_any (c0 c1 c2 c3 c4 c5 : Int) (w : World) : Calls Tryz.prog 33 #[.agg #[.int .i64 c0, .int .i64 c1, .int .i64 c2, .int .i64 c3, .int .i64 c4, .int .i64 c5]] w fun e w' => e = .returned (.bool (cfgB c0 c1 c2 c3 c4 c5)) ∧ Below w.heap.size w w' := by
  have HB := hide (below_allocG w (Obj.cells #[.int .i64 c0, .int .i64 c1, .int .i64 c2, .int .i64 c3, .int .i64 c4, .int .i64 c5] 32))
  have C0 := hide (fun w => isWithin_any c0 1 8 w)
  have C1 := hide (fun w => isWithin_any c1 2 4 w)
  have C2 := hide (fun w => isWithin_any c2 0 4 w)
  have C3 := hide (fun w => isWithin_any c3 1 4 w)
  have C4 := hide (fun w => isWithin_any c4 1 1000000 w)
  have C5 := hide (fun w => isWithin_any c5 1 8 w)
  have HR : Hid (cfgB c0 c1 c2 c3 c4 c5 = (decide (1 ≤ c0 ∧ c0 ≤ 8) && (decide (2 ≤ c1 ∧ c1 ≤ 4) && (decide (0 ≤ c2 ∧ c2 ≤ 4) && (decide (1 ≤ c3 ∧ c3 ≤ 4) && (decide (1 ≤ c4 ∧ c4 ≤ 1000000) && decide (1 ≤ c5 ∧ c5 ≤ 8))))))) := rfl
  generalize cfgB c0 c1 c2 c3 c4 c5 = r at *
  generalize decide (1 ≤ c0 ∧ c0 ≤ 8) = b0 at *
  generalize decide (2 ≤ c1 ∧ c1 ≤ 4) = b1 at *
  generalize decide (0 ≤ c2 ∧ c2 ≤ 4) = b2 at *
  generalize decide (1 ≤ c3 ∧ c3 ≤ 4) = b3 at *
  generalize decide (1 ≤ c4 ∧ c4 ≤ 1000000) = b4 at *
  generalize decide (1 ≤ c5 ∧ c5 ≤ 8) = b5 at *
  have hk := new_blk w #[.int .i64 c0, .int .i64 c1, .int .i64 c2, .int .i64 c3, .int .i64 c4, .int .i64 c5] 32
  obtain ⟨w1, hw1⟩ : ∃ w1, w1 = w.alloc (Obj.cells #[.int .i64 c0, .int .i64 c1, .int .i64 c2, .int .i64 c3, .int .i64 c4, .int .i64 c5] 32) := ⟨_, rfl⟩
  rw [← hw1] at hk HB
  obtain ⟨a0, _⟩ := cell_of (j := 0) (u := .int .i64 c0) hk rfl
  obtain ⟨a1, _⟩ := cell_of (j := 1) (u := .int .i64 c1) hk rfl
  obtain ⟨a2, _⟩ := cell_of (j := 2) (u := .int .i64 c2) hk rfl
  obtain ⟨a3, _⟩ := cell_of (j := 3) (u := .int .i64 c3) hk rfl
  obtain ⟨a4, _⟩ := cell_of (j := 4) (u := .int .i64 c4) hk rfl
  obtain ⟨a5, _⟩ := cell_of (j := 5) (u := .int .i64 c5) hk rfl
  have HW1 := hide hw1
  clear hk hw1
  have hcase : b0 = false ∨ (b0 = true ∧ b1 = false) ∨ (b0 = true ∧ b1 = true ∧ b2 = false) ∨ (b0 = true ∧ b1 = true ∧ b2 = true ∧ b3 = false) ∨ (b0 = true ∧ b1 = true ∧ b2 = true ∧ b3 = true ∧ b4 = false) ∨ (b0 = true ∧ b1 = true ∧ b2 = true ∧ b3 = true ∧ b4 = true ∧ b5 = b5) := by
    cases b0 <;> cases b1 <;> cases b2 <;> cases b3 <;> cases b4 <;> simp
  rcases hcase with rfl | ⟨rfl, rfl⟩ | ⟨rfl, rfl, rfl⟩ | ⟨rfl, rfl, rfl, rfl⟩ | ⟨rfl, rfl, rfl, rfl, rfl⟩ | ⟨rfl, rfl, rfl, rfl, rfl, _⟩
  all_goals (
    go_enter Tryz.func33, Tryz.ntmps33
    go_upto_region 1 with fail
    rw [← HW1.out]
    go_wp2_with (first
      | (go_at_call_of 44 (Value.int .i64 c0); refine (C0.out _).mono ?_; rintro e w' ⟨rfl, rfl⟩)
      | (go_at_call_of 44 (Value.int .i64 c1); refine (C1.out _).mono ?_; rintro e w' ⟨rfl, rfl⟩)
      | (go_at_call_of 44 (Value.int .i64 c2); refine (C2.out _).mono ?_; rintro e w' ⟨rfl, rfl⟩)
      | (go_at_call_of 44 (Value.int .i64 c3); refine (C3.out _).mono ?_; rintro e w' ⟨rfl, rfl⟩)
      | (go_at_call_of 44 (Value.int .i64 c4); refine (C4.out _).mono ?_; rintro e w' ⟨rfl, rfl⟩)
      | (go_at_call_of 44 (Value.int .i64 c5); refine (C5.out _).mono ?_; rintro e w' ⟨rfl, rfl⟩))
    go_ret
    exact ⟨by rw [HR.out]; simp, HB.out⟩)

theorem equalIn_ptr_nil {P : Program} (w : World) (d : Nat) (t e : TypeId) (a : Addr) (h : P.underlying t = some (.pointer e)) : (Op.equalIn (d + 1) t (.pointer (some a)) (.pointer none)).run P w = .ok false w := by
  simp [Op.equalIn, run_underlying h]
set_option maxRecDepth 100000 in
set_option maxHeartbeats 1000000 in
theorem isDisk_any {w : World} {d b : Nat} (h : Ptr 104 w d b) : Calls Tryz.prog 34 #[ptrV d] w fun e w' => e = .returned (.bool true) ∧ w' = w := by
  obtain ⟨c0, _⟩ := cell_of (j := 0) (u := .pointer (some ⟨b, 0, none⟩)) h rfl
  have hq : (Op.equalIn 9999 83 (.pointer (some ⟨b, 0, none⟩)) (.pointer none)).run Tryz.prog w = .ok false w := equalIn_ptr_nil w 9998 _ _ _ Tryz.underlying83
  go_enter Tryz.func34, Tryz.ntmps34
  go_wp2_with fail
  go_ret
  exact ⟨rfl, rfl⟩

set_option maxHeartbeats 1000000 in
theorem newWorker_any (lb : Nat) (w : World) : Calls Tryz.prog 37 #[ptrV lb] w fun e w' => e = .returned (ptrV w.heap.size) ∧ w'.heap[w.heap.size]? = some (Obj.cells (wkC lb w.heap.size wk0 (.slice none 0 0)) 110 (0, 0)) ∧ Below w.heap.size w w' ∧ w'.heap.size = w.heap.size + 1 := by
  go_enter Tryz.func37, Tryz.ntmps37
  go_wp2_with fail
  go_ret
  exact ⟨rfl, new_blk _ _ _, below_allocG _ _, by simp⟩

set_option maxHeartbeats 1000000 in
theorem first_none (s : ByteArray) (hs : s.size < 2) (w : World) : Calls Tryz.prog 82 #[.string s] w fun e w' => e = .returned (.tuple #[.int .u8 0, .string ⟨#[]⟩, .bool false]) ∧ w' = w := by
  have h : (s.size : Int) < 2 := by omega
  go_enter Tryz.func82, Tryz.ntmps82
  go_wp2_with fail
  go_ret3
  exact ⟨rfl, rfl⟩
theorem Tryz.sizePs : (Tryz.prog.info? 135).map (·.size) = some 2 := by kernel_rfl

set_option maxRecDepth 100000 in
set_option maxHeartbeats 1000000 in
theorem readJ_none (w : World) : Calls Tryz.prog 58 #[.string ⟨#[]⟩] w fun e w' => e = .returned (.tuple #[.agg #[.int .i64 0, .slice none 0 0], .int .i64 0]) ∧ Below w.heap.size w w' := by
  have CF : Hid (∀ w, Calls Tryz.prog 82 #[.string ⟨#[]⟩] w fun e w' => e = .returned (.tuple #[.int .u8 0, .string ⟨#[]⟩, .bool false]) ∧ w' = w) := fun w => first_none ⟨#[]⟩ (by decide) w
  go_enter Tryz.func58, Tryz.ntmps58
  go_wp2_with fail
  obtain ⟨W3, hW3⟩ : ∃ W3, W3 = ((w.alloc (Obj.cells #[.int .i64 0, .slice none 0 0] 135)).alloc (Obj.cells #[.func (.func 80) #[] #[], .func (.func 81) #[] #[]] 156)).alloc (Obj.cells #[.int .i64 0, .slice none 0 0] 135) := ⟨_, rfl⟩
  rw [← hW3]
  have hb1 := below_allocG w (Obj.cells #[.int .i64 0, .slice none 0 0] 135)
  have hb2 := below_allocG (w.alloc (Obj.cells #[.int .i64 0, .slice none 0 0] 135)) (Obj.cells #[.func (.func 80) #[] #[], .func (.func 81) #[] #[]] 156)
  have hb3 := below_allocG ((w.alloc (Obj.cells #[.int .i64 0, .slice none 0 0] 135)).alloc (Obj.cells #[.func (.func 80) #[] #[], .func (.func 81) #[] #[]] 156)) (Obj.cells #[.int .i64 0, .slice none 0 0] 135)
  have k2 : W3.heap[w.heap.size]? = some (Obj.cells #[.int .i64 0, .slice none 0 0] 135 (0, 0)) := by rw [hW3]; exact old_blk _ (old_blk _ (new_blk _ _ _))
  have k5 : W3.heap[w.heap.size + 1 + 1]? = some (Obj.cells #[.int .i64 0, .slice none 0 0] 135 (0, 0)) := by
    have := new_blk ((w.alloc (Obj.cells #[.int .i64 0, .slice none 0 0] 135)).alloc (Obj.cells #[.func (.func 80) #[] #[], .func (.func 81) #[] #[]] 156)) #[.int .i64 0, .slice none 0 0] 135
    rw [World.size_alloc, World.size_alloc] at this
    rw [hW3]
    exact this
  have hB3 : Below w.heap.size w W3 := by
    rw [hW3]
    exact (hb1.trans (hb2.mono hb1.size)).trans (hb3.mono (hb1.trans (hb2.mono hb1.size)).size)
  have HB3 := hide hB3
  have HK2 := hide k2
  clear hb1 hb2 hb3 hW3 hB3
  obtain ⟨p0, _⟩ := cell_of (j := 0) (u := .int .i64 0) k5 rfl
  obtain ⟨p1, _⟩ := cell_of (j := 1) (u := .slice none 0 0) k5 rfl
  obtain ⟨q0, f0⟩ := cell_of (j := 0) (u := .int .i64 0) k2 rfl
  obtain ⟨q1, f1⟩ := cell_of (j := 1) (u := .slice none 0 0) k2 rfl
  clear k2 k5
  go_loopw [6] (fun v wr => v = .int .i64 0 ∧ wr = W3) (fun _ _ => 0)
  case atStart => exact ⟨rfl, rfl⟩
  case round =>
    obtain ⟨rfl, rfl⟩ := hrel
    go_wp2_with (first | (go_at_call 82; refine (CF.out _).mono ?_; rintro e w' ⟨rfl, rfl⟩))
    have hk6 := setCell_blk (j := 1) (v := .slice none 0 0) (setCell_blk (j := 0) (v := .int .i64 0) HK2.out)
    have hB6 := below_set (j := 1) (v := .slice none 0 0) (below_set (j := 0) (v := .int .i64 0) HB3.out (Nat.le_refl _)) (Nat.le_refl _)
    have hld := run_loadVar_row (P := Tryz.prog) _ w.heap.size 135 135 _ _ _ hk6 Tryz.underlying135 rfl Tryz.sizePs
    (try simp only [Exit.inBlock, Exit.then])
    refine bodyPost_ret (v := .tuple #[.agg #[.int .i64 0, .slice none 0 0], .int .i64 0]) ?_ rfl ⟨rfl, hB6⟩
    rw [results_cell_tmp rfl]
    simp [asAddr, Result.andThen, hld]
end Go.Proofs.YtkncboinfcnklabGreatDoor

namespace Go.Proofs.YtkncboinfcnklabGreatDoor
open Go.RowKit Go.Deep Go.Shelf Go.Proofs.YtkncboinfcnklabGreatDoor.Mth

/-- The name of the draft. -/
def dnm : ByteArray := ⟨#[106, 111, 117, 114, 110, 97, 108, 46, 100, 114, 97, 102, 116]⟩
theorem dnm_ne : dnm ≠ jnm := by decide

set_option maxRecDepth 100000 in
set_option maxHeartbeats 2000000 in
theorem rewrite_new {w : World} {B b d : Nat} (h : St 82 87 w B b [] (-1) (.slice none 0 0)) (hp : Ptr 104 w d b) (hB : B ≤ w.heap.size) :
    Calls Tryz.prog 59 #[ptrV d, .string ByteArray.empty] w fun e w' => e = .returned (.bool true) ∧ ∃ fv', Stp 82 87 B b w w' (.slice none 0 0) (jf ⟨#[]⟩ 0) (-1) fv' := by
  have HP : Hid (∀ {w' : World} {fs : List Fl} {fv : Value}, Stp 82 87 B b w w' (.slice none 0 0) fs (-1) fv → Ptr 104 w' d b ∧ B ≤ w'.heap.size) := fun hs => ⟨hp.keep h hs.tch (by decide) (by decide), Nat.le_trans hB hs.tch.size⟩
  have C1 : Hid (Calls Tryz.prog 83 #[ptrV d, .string dnm] w fun e w' => e = .returned (.bool true) ∧ ∃ fv', Stp 82 87 B b w w' (.slice none 0 0) [] (-1) fv') := apiRemove_yes h hp hB (by omega) (by omega) (by omega) (by simp) dnm
  have C2 : Hid (∀ W fv, Stp 82 87 B b w W (.slice none 0 0) [] (-1) fv → Calls Tryz.prog 84 #[ptrV d, .string dnm, .string ByteArray.empty] W fun e w' => e = .returned (.bool true) ∧ ∃ fv', Stp 82 87 B b w w' (.slice none 0 0) [⟨dnm, ⟨#[]⟩, 0⟩] (-1) fv') := by
    intro W fv hs
    obtain ⟨hp1, hB1⟩ := HP.out hs
    refine (apiAppend_yes hs.st hp1 hB1 (by omega) (by omega) (by omega) (by simp) dnm ⟨#[]⟩ (-1) (Or.inl ⟨rfl, fun j hj => absurd hj (by simp)⟩) (by decide)).mono ?_
    rintro e w' ⟨rfl, fv', hs'⟩
    exact ⟨rfl, fv', hs.trans hs'⟩
  have C3 : Hid (∀ W fv, Stp 82 87 B b w W (.slice none 0 0) [⟨dnm, ⟨#[]⟩, 0⟩] (-1) fv → Calls Tryz.prog 85 #[ptrV d, .string dnm] W fun e w' => e = .returned (.bool true) ∧ ∃ fv', Stp 82 87 B b w w' (.slice none 0 0) [⟨dnm, ⟨#[]⟩, 0⟩] (-1) fv') := by
    intro W fv hs
    obtain ⟨hp1, hB1⟩ := HP.out hs
    refine (apiSync_yes hs.st hp1 (by omega) (by omega) (by omega) dnm 0 (Or.inr ⟨0, by simp, rfl, rfl, fun j hj => absurd hj (Nat.not_lt_zero _)⟩)).mono ?_
    rintro e w' ⟨rfl, fv', hs'⟩
    exact ⟨rfl, fv', hs.trans hs'⟩
  have C4 : Hid (∀ W fv, Stp 82 87 B b w W (.slice none 0 0) [⟨dnm, ⟨#[]⟩, 0⟩] (-1) fv → Calls Tryz.prog 86 #[ptrV d, .string dnm, .string jnm] W fun e w' => e = .returned (.bool true) ∧ ∃ fv', Stp 82 87 B b w w' (.slice none 0 0) (jf ⟨#[]⟩ 0) (-1) fv') := by
    intro W fv hs
    obtain ⟨hp1, hB1⟩ := HP.out hs
    refine (apiRename_yes hs.st hp1 hB1 (by omega) (by omega) (by omega) (by simp) dnm jnm 0 (Or.inr ⟨0, by simp, rfl, rfl, fun j hj => absurd hj (Nat.not_lt_zero _)⟩) (by simp) dnm_ne).mono ?_
    rintro e w' ⟨rfl, fv', hs'⟩
    have e1 : wo jnm (wo dnm [(⟨dnm, ⟨#[]⟩, 0⟩ : Fl)]) = [] := by simp [wo]
    rw [e1] at hs'
    exact ⟨rfl, fv', hs.trans hs'⟩
  clear h hp HP
  unfold dnm at C1 C2 C3 C4
  unfold jnm at C4
  go_enter Tryz.func59, Tryz.ntmps59
  go_wp2_with (first
    | (go_at_call 83; refine C1.out.mono ?_; rintro e w1 ⟨rfl, fv1, hs1⟩; have H1 := hide hs1; clear hs1)
    | (go_at_call 84; refine (C2.out _ _ H1.out).mono ?_; rintro e w2 ⟨rfl, fv2, hs2⟩; have H2 := hide hs2; clear hs2)
    | (go_at_call 85; refine (C3.out _ _ H2.out).mono ?_; rintro e w3 ⟨rfl, fv3, hs3⟩; have H3 := hide hs3; clear hs3)
    | (go_at_call 86; refine (C4.out _ _ H3.out).mono ?_; rintro e w4 ⟨rfl, fv4, hs4⟩; have H4 := hide hs4; clear hs4))
  go_ret
  exact ⟨rfl, fv4, H4.out⟩

/-- What Open leaves of a disk on which nobody wrote. -/
structure Opn (w w' : World) (B d b jb : Nat) : Prop where
  ex : ∃ fv, JAt w' B jb d b (jf ⟨#[]⟩ 0) (-1) fv 0 0 ∧ (∀ g, some g = fv.ownBlock → w.heap.size ≤ g)
  tch : Tch (fun k => k = b) w w'
  ge : w.heap.size ≤ jb

set_option maxRecDepth 100000 in
set_option maxHeartbeats 2000000 in
theorem open_new {w : World} {B b d : Nat} (h : St 82 87 w B b [] (-1) (.slice none 0 0)) (hp : Ptr 104 w d b) (hB : B ≤ w.heap.size) (hd : B ≤ d) :
    Calls Tryz.prog 35 #[ptrV d] w fun e w' => ∃ jb, e = .returned (.tuple #[ptrV jb, .slice none 0 0, .bool true]) ∧ Opn w w' B d b jb := by
  have CR : Hid (Calls Tryz.prog 57 #[ptrV d, .string jnm] w fun e w' => e = .returned (.string ⟨#[]⟩) ∧ w' = w) := by
    refine (read_any h hp jnm).mono ?_
    rintro e w' ⟨r, hr, rfl, hw⟩
    refine ⟨?_, hw⟩
    rcases hr with ⟨rfl, _⟩ | ⟨i, hi, _⟩
    · rfl
    · simp at hi
  have CJ := hide (readJ_none w)
  have hbn : ∀ W, Below w.heap.size w W → Calls Tryz.prog 59 #[ptrV d, .string ByteArray.empty] W fun e w' => e = .returned (.bool true) ∧ ∃ fv', Stp 82 87 B b W w' (.slice none 0 0) (jf ⟨#[]⟩ 0) (-1) fv' ∧ Ptr 104 w' d b := by
    intro W hb
    refine (rewrite_new (h.below hb) (hp.below hb) (Nat.le_trans hB hb.size)).mono ?_
    rintro e w' ⟨rfl, fv', hs⟩
    exact ⟨rfl, fv', hs, (hp.below hb).keep (h.below hb) hs.tch (by decide) (by decide)⟩
  have CW := hide hbn
  have HS := hide h
  have HP := hide hp
  clear h hp hbn
  unfold jnm at CR
  go_enter Tryz.func35, Tryz.ntmps35
  go_wp2_with (first
    | (go_at_call 57; refine CR.out.mono ?_; rintro e w' ⟨rfl, hw'⟩; rw [hw']; clear hw' w')
    | (go_at_call 58; refine CJ.out.mono ?_; rintro e w2 ⟨rfl, hb2⟩; have HB2 := hide hb2; clear hb2))
  have hb3 := below_allocG w2 (Obj.cells #[.int .i64 0, .slice none 0 0] 135)
  have hk3 := new_blk w2 #[.int .i64 0, .slice none 0 0] 135
  have hB3 := HB2.out.trans (hb3.mono HB2.out.size)
  have CW3 := hide (CW.out _ hB3)
  have hlb : b < w2.heap.size := Nat.lt_of_lt_of_le HS.out.lt HB2.out.size
  have hnb3 : w2.heap.size < (w2.alloc (Obj.cells #[.int .i64 0, .slice none 0 0] 135)).heap.size := by simp
  have HB3 := hide hB3
  have HK3 := hide hk3
  clear hb3 hB3 hk3 CW CJ CR
  obtain ⟨pb, hpb⟩ : ∃ pb, pb = w2.heap.size := ⟨_, rfl⟩
  rw [← hpb] at HK3 hnb3 hlb ⊢
  have hwp : w.heap.size ≤ pb := by rw [hpb]; exact HB2.out.size
  generalize w2.alloc (Obj.cells #[.int .i64 0, .slice none 0 0] 135) = w3 at *
  clear hpb HB2
  refine CW3.out.mono ?_
  rintro e w4 ⟨rfl, fv4, hs4, hp4⟩
  have CS := hide (stopped_any hs4.st hp4)
  rw [show ((-1 : Int) == 0) = false from rfl] at CS
  have hk4 : w4.heap[pb]? = some (Obj.cells #[.int .i64 0, .slice none 0 0] 135 (0, 0)) := (hs4.tch.block pb hnb3 (fun q => by
    rcases q with q | q
    · omega
    · cases q)).trans HK3.out
  have HT4 : Hid (Tch (fun k => k = b) w w4) := ⟨hs4.tch.os.trans HB3.out.os, hs4.tch.tape.trans HB3.out.tape, hs4.tch.output.trans HB3.out.output, Nat.le_trans HB3.out.size hs4.tch.size, fun k hk hne => (hs4.tch.block k (Nat.lt_of_lt_of_le hk HB3.out.size) (fun q => by
    rcases q with q | q
    · exact hne q
    · cases q)).trans (HB3.out.block k hk)⟩
  have FIN : Hid (∀ W, Below w4.heap.size w4 W → Opn w (W.alloc (Obj.cells #[ptrV d, .int .i64 0, .int .i64 0] 140)) B d b W.heap.size) := by
    intro W hW
    have hWa := hW.trans ((below_allocG W (Obj.cells #[ptrV d, .int .i64 0, .int .i64 0] 140)).mono hW.size)
    have hsz : w.heap.size ≤ W.heap.size := Nat.le_trans HT4.out.size hW.size
    refine ⟨⟨fv4, ⟨new_blk _ _ _, hp4.below hWa, hs4.st.below hWa, Nat.le_trans hB hsz, hd⟩, fun g hg => ?_⟩, HT4.out.trans (tch_below (S := fun k => k = b) hWa) (fun _ _ q => q), hsz⟩
    rcases hs4.new g hg with q | q
    · cases q
    · exact Nat.le_trans HB3.out.size q
  obtain ⟨k0, _⟩ := cell_of (j := 0) (u := .int .i64 0) hk4 rfl
  obtain ⟨k1, _⟩ := cell_of (j := 1) (u := .slice none 0 0) hk4 rfl
  clear hk4 hs4 hp4 HS HP HK3 HB3 CW3 HT4
  go_wp2_with (first | (go_at_call 60; refine CS.out.mono ?_; rintro e w' ⟨rfl, hw'⟩; rw [hw']; clear hw' w'))
  go_region_held3 (fun w' => w'.cell? ⟨pb, 0, none⟩ = some (.int .i64 0) ∧ w'.cell? ⟨pb, 1, none⟩ = some (.slice none 0 0)) (first | exact ⟨k0, k1⟩ | exact ⟨cellA k0, cellA k1⟩ | fail) (fail)
  go_wp2_with fail
  go_ret3
  exact ⟨_, rfl, FIN.out _ (drewB w4)⟩
end Go.Proofs.YtkncboinfcnklabGreatDoor
