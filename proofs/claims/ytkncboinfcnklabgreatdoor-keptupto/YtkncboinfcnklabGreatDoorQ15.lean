import Derived.Test.YtkncboinfcnklabGreatDoorQ14
import Derived.Laws.EntriesVeiled
import Derived.Maps.RangeWalk
namespace Go.Proofs.YtkncboinfcnklabGreatDoor
open Go.RowKit Go.Deep Go.Shelf Go.Proofs.YtkncboinfcnklabGreatDoor.Mth

theorem tkC_take (l : List Nat) : ∀ i, (l.flatMap tkC).take (i * 2) = (l.take i).flatMap tkC := by
  induction l with
  | nil => intro i; simp
  | cons a l ih =>
    intro i
    cases i with
    | zero => simp
    | succ i =>
      rw [List.flatMap_cons, List.take_succ_cons, List.flatMap_cons, ← ih i]
      show (_ :: _ :: _).take ((i + 1) * 2) = _
      rw [show (i + 1) * 2 = i * 2 + 1 + 1 by omega]
      rfl
theorem tkC_drop (l : List Nat) : ∀ i, (l.flatMap tkC).drop (i * 2) = (l.drop i).flatMap tkC := by
  induction l with
  | nil => intro i; simp
  | cons a l ih =>
    intro i
    cases i with
    | zero => simp
    | succ i =>
      rw [List.flatMap_cons, List.drop_succ_cons, ← ih i]
      show (_ :: _ :: _).drop ((i + 1) * 2) = _
      rw [show (i + 1) * 2 = i * 2 + 1 + 1 by omega]
      rfl

set_option maxRecDepth 100000 in
set_option maxHeartbeats 4000000 in
theorem give_any {w : World} {ρ : Nat → Nat} {B N lb : Nat} {G : Gh} {L : Lg} (h : LogX w ρ B N lb G L) (hB : B ≤ w.heap.size) {q : Nat} (hq : q < L.wks.length) {i : Nat} (hi : i < (L.wks.getD q wk0).list.length) :
    Calls Tryz.prog 107 #[ptrV (G.wb.getD q 0), .int .i64 (i : Int)] w fun e w' => e = .returned (tkV ((L.wks.getD q wk0).list.getD i 0)) ∧ Laid w w' ρ B N lb G L (L.wks.set q ⟨(L.wks.getD q wk0).list.eraseIdx i, (L.wks.getD q wk0).runs, (L.wks.getD q wk0).read⟩) := by
  obtain ⟨a, c, hwl, hc, hm⟩ := own_slice (h.k.lst q hq)
  have hown := h.k.lst q hq
  rw [hwl] at hown
  obtain ⟨g, rfl⟩ := own_some hown (by omega)
  have hblk := h.k.one q hq
  have hl5 := wk_len (h.k.ok q hq)
  obtain ⟨d0, d1⟩ := tkC_at (l := (L.wks.getD q wk0).list) hi
  have d0 := own_get hown d0
  have d1 := own_get hown d1
  obtain ⟨c1, f1⟩ := cellG (j := 1) (u := .slice (some ⟨g, 0, none⟩) (L.wks.getD q wk0).list.length c) hblk (by rw [hwl]; rfl)
  unfold maxLen at hm
  generalize hx : (L.wks.getD q wk0).list.getD i 0 = x at *
  generalize hn : (L.wks.getD q wk0).list.length = n at *
  generalize hb : G.wb.getD q 0 = b at *
  have hbl : b < w.heap.size := (Array.getElem?_eq_some_iff.1 hblk).1
  have hgl := (own_ge hown).2.1
  have e1 : (w.alloc (Obj.cells #[.int .i64 0, .int .i64 0] 108)).cell? ⟨b, 1, none⟩ = some (.slice (some ⟨g, 0, none⟩) n c) := ((below_allocG w _).cell (p := ⟨b, 1, none⟩) hbl).trans c1
  have e2 : (w.alloc (Obj.cells #[.int .i64 0, .int .i64 0] 108)).cell? ⟨g, i * 2, none⟩ = some (.int .i64 (x : Int)) := ((below_allocG w _).cell (p := ⟨g, i * 2, none⟩) hgl).trans d0
  have e3 : (w.alloc (Obj.cells #[.int .i64 0, .int .i64 0] 108)).cell? ⟨g, i * 2 + 1, none⟩ = some (.int .i64 ((x : Int) + 1)) := ((below_allocG w _).cell (p := ⟨g, i * 2 + 1, none⟩) hgl).trans d1
  have hsz : (Tryz.prog.info? 108).map (·.size) = some 2 := by
    have := Tryz.info108
    cases h' : Tryz.prog.info? 108 with
    | none => rw [h'] at this; cases this
    | some i => rw [h'] at this; simp at this; simp [this]
  obtain ⟨W2, hW2⟩ : ∃ W2, W2 = (w.alloc (Obj.cells #[.int .i64 0, .int .i64 0] 108)).alloc (Obj.cells #[.int .i64 (x : Int), .int .i64 ((x : Int) + 1)] 108) := ⟨_, rfl⟩
  have hb2 : Below w.heap.size w W2 := by rw [hW2]; exact ((Below.refl _ w).alloc (Nat.le_refl _) _).alloc (by simp) _
  have hs2 : W2.heap.size = w.heap.size + 2 := by rw [hW2]; simp
  have hn0 : W2.heap[w.heap.size]? = some (Obj.cells #[.int .i64 0, .int .i64 0] 108 (0, 0)) := by
    rw [hW2]
    exact old_blk _ (new_blk w _ _)
  have hn1 : W2.heap[w.heap.size + 1]? = some (Obj.cells #[.int .i64 (x : Int), .int .i64 ((x : Int) + 1)] 108 (0, 0)) := by
    have := new_blk (w.alloc (Obj.cells #[.int .i64 0, .int .i64 0] 108)) #[.int .i64 (x : Int), .int .i64 ((x : Int) + 1)] 108
    rw [World.size_alloc] at this
    rw [hW2]
    exact this
  have hown2 : W2.ownsRow B 108 2 (.slice (some ⟨g, 0, none⟩) n c) n ((L.wks.getD q wk0).list.flatMap tkC) := own_same hown (fun g' q' => hb2.block g' (own_block hown q').2.1)
  have hgb : g ≠ b := fun e => by
    obtain ⟨_, _, D, hD⟩ := own_block hown (g := g) rfl
    rw [e] at hD
    exact cells_ne hblk hD (by decide) rfl
  have CD := hide (delTask_any hown2 (by intro u hu; obtain ⟨y, _, hy⟩ := List.mem_flatMap.1 hu; simp [tkC] at hy; rcases hy with rfl | rfl <;> rfl) (i := i) (j := i + 1) (by omega) (by omega))
  rw [tkC_take, tkC_drop, show n - (i + 1 - i) = n - 1 by omega, show ((i + 1 : Nat) : Int) = (i : Int) + 1 by omega] at CD
  have FIN : Hid (∀ wB, wB.ownsRow B 108 2 (.slice (some ⟨g, 0, none⟩) (n - 1) c) (n - 1) (((L.wks.getD q wk0).list.take i).flatMap tkC ++ ((L.wks.getD q wk0).list.drop (i + 1)).flatMap tkC) → W2.grownBy wB (some g) →
      (wB.cell? ⟨b, 1, none⟩ = some (.slice (some ⟨g, 0, none⟩) n c) ∧ wB.frozen? ⟨b, 1, none⟩ = false) ∧ (wB.heap[w.heap.size]? = some (Obj.cells #[.int .i64 0, .int .i64 0] 108 (0, 0)) ∧ wB.heap[w.heap.size + 1]? = some (Obj.cells #[.int .i64 (x : Int), .int .i64 ((x : Int) + 1)] 108 (0, 0))) ∧
      Laid w (((wB.setCell ⟨b, 1, none⟩ (.slice (some ⟨g, 0, none⟩) (n - 1) c)).setCell ⟨w.heap.size, 0, none⟩ (.int .i64 (x : Int))).setCell ⟨w.heap.size, 1, none⟩ (.int .i64 ((x : Int) + 1))) ρ B N lb G L (L.wks.set q ⟨(L.wks.getD q wk0).list.eraseIdx i, (L.wks.getD q wk0).runs, (L.wks.getD q wk0).read⟩)) := by
    intro wB ho hg
    have hkeep : ∀ k, k < w.heap.size + 2 → k ≠ g → wB.heap[k]? = W2.heap[k]? := fun k hk hne => hg.block k (by omega) (fun e => hne (by injection e))
    have hbB : wB.heap[b]? = some (Obj.cells (wkC lb b (L.wks.getD q wk0) (G.wl q)) 110 (0, 0)) := ((hkeep b (by omega) (fun e => hgb e.symm)).trans (hb2.block b hbl)).trans hblk
    have hn0B := (hkeep w.heap.size (by omega) (by omega)).trans hn0
    have hn1B := (hkeep (w.heap.size + 1) (by omega) (by omega)).trans hn1
    refine ⟨cellG (j := 1) hbB (by rw [hwl]; rfl), ⟨hn0B, hn1B⟩, ?_⟩
    have ht := h.wkFin (w' := ((wB.setCell ⟨b, 1, none⟩ (.slice (some ⟨g, 0, none⟩) (n - 1) c)).setCell ⟨w.heap.size, 0, none⟩ (.int .i64 (x : Int))).setCell ⟨w.heap.size, 1, none⟩ (.int .i64 ((x : Int) + 1))) hB hq ⟨(L.wks.getD q wk0).list.eraseIdx i, (L.wks.getD q wk0).runs, (L.wks.getD q wk0).read⟩ (.slice (some ⟨g, 0, none⟩) (n - 1) c)
      ⟨hg.os.trans hb2.os, hg.tape.trans hb2.tape, hg.output.trans hb2.output, by have := hg.size; simp; omega, fun k hk e => by
        rw [set_other (by omega), set_other (by omega), set_other (fun e' => e (Or.inl (by rw [hb]; exact e'))), hkeep k (by omega) (fun e' => e (Or.inr (by rw [hwl, e']; rfl)))]
        exact hb2.block k hk⟩
      (by rw [hb, set_other (by omega), set_other (by omega), setCell_blk hbB]; rfl)
      (by
        have hl : ((L.wks.getD q wk0).list.eraseIdx i).length = n - 1 := by rw [List.length_eraseIdx, if_pos (by omega), hn]
        rw [hl, List.eraseIdx_eq_take_drop_succ, List.flatMap_append]
        refine own_same ho (fun g' e => ?_)
        have e2 : g' = g := by simpa [Value.ownBlock] using e
        rw [e2, set_other (by omega), set_other (by omega), set_other hgb])
      (fun g' e => Or.inl (by rw [hwl]; exact e))
      ⟨⟨fun y hy => (h.k.ok q hq).1.1 y (List.mem_of_mem_eraseIdx hy), (h.k.ok q hq).1.2⟩, (h.k.ok q hq).2.sublist (List.eraseIdx_sublist _ _)⟩
    obtain ⟨ρ', r1, r2, r3, r4⟩ := ht
    exact ⟨⟨ρ', _, r1, r2, r3, r4⟩⟩
  have HW2 := hide hW2
  clear hown2 hown h hblk hwl hb hx hn0 hn1 hb2 hs2 hW2
  go_enter Tryz.func107, Tryz.ntmps107
  go_wp2_with (fail)
  rw [← HW2.out]
  refine CD.out.mono ?_
  rintro e wB ⟨rfl, ho, hg⟩
  obtain ⟨⟨k1, k2⟩, ⟨k3, k4⟩, hL⟩ := FIN.out wB ho hg
  have HL := hide hL
  have hsb : w.heap.size ≠ b := by omega
  have hsb1 : w.heap.size + 1 ≠ b := by omega
  have hld := run_loadVar_row (P := Tryz.prog) (((wB.setCell ⟨b, 1, none⟩ (.slice (some ⟨g, 0, none⟩) (n - 1) c)).setCell ⟨w.heap.size, 0, none⟩ (.int .i64 (x : Int))).setCell ⟨w.heap.size, 1, none⟩ (.int .i64 ((x : Int) + 1))) w.heap.size 108 108 _ _ _ (setCell_blk (setCell_blk ((set_other (by omega)).trans k3))) Tryz.underlying108 rfl hsz
  have HLD := hide hld
  obtain ⟨m3, _⟩ := cell_of (j := 0) (u := .int .i64 (x : Int)) ((set_other (w := wB) (o := 1) (u := .slice (some ⟨g, 0, none⟩) (n - 1) c) hsb1).trans k4) rfl
  obtain ⟨m4, _⟩ := cell_of (j := 1) (u := .int .i64 ((x : Int) + 1)) ((set_other (w := wB) (o := 1) (u := .slice (some ⟨g, 0, none⟩) (n - 1) c) hsb1).trans k4) rfl
  obtain ⟨m0, g0⟩ := cell_of (j := 0) (u := .int .i64 0) ((set_other (w := wB) (o := 1) (u := .slice (some ⟨g, 0, none⟩) (n - 1) c) hsb).trans k3) rfl
  obtain ⟨m1, g1⟩ := cell_of (j := 1) (u := .int .i64 0) ((set_other (w := wB) (o := 1) (u := .slice (some ⟨g, 0, none⟩) (n - 1) c) hsb).trans k3) rfl
  clear hL hld ho hg FIN CD e1 e2 e3 c1 d0 d1 k3 k4
  go_wp2
  refine bodyPost_ret (v := tkV x) ?_ rfl ⟨rfl, HL.out⟩
  have hld := HLD.out
  rw [results_cellG rfl]
  simp [asAddr, Result.andThen, hld, tkV]
end Go.Proofs.YtkncboinfcnklabGreatDoor

namespace Go.Proofs.YtkncboinfcnklabGreatDoor
open Go.RowKit Go.Deep Go.Shelf Go.Proofs.YtkncboinfcnklabGreatDoor.Mth

theorem Same.pre {w w1 w2 : World} {ρ : Nat → Nat} {B N lb : Nat} {G : Gh} {L : Lg} (h : LogX w ρ B N lb G L) (hb : Below w.heap.size w w1) (b4 : Same w1 w2 ρ (fun c => c = 3)) : Same w w2 ρ (fun c => c = 3) := by
  intro g q
  have hl : g < w.heap.size := by
    rcases q with q | q
    · exact (h.lt g (by omega)).1
    · exact isN_lt q
  have e1 := hb.block g hl
  refine (b4 g ?_).trans e1
  rcases q with q | q
  · exact Or.inl q
  · obtain ⟨C, fr, hC⟩ := q
    exact Or.inr ⟨C, fr, e1.trans hC⟩
/-- A block that is not the log's is written. -/
theorem Laid.box {w wA w2 w3 : World} {ρ : Nat → Nat} {B N lb : Nat} {G : Gh} {L : Lg} {ks : List Wk} (h : LogX w ρ B N lb G L) (hb : Below w.heap.size w wA) (h2 : Laid wA w2 ρ B N lb G L ks) {nb : Nat} (hnb : w.heap.size ≤ nb) (hl : nb < wA.heap.size) (hn : ¬ isN wA nb) (ht : Tch (fun k => k = nb) w2 w3) : Laid w w3 ρ B N lb G L ks := by
  have h0 : ρ nb = 0 := by
    apply Classical.byContradiction
    intro q
    have := (h.lt nb q).1
    omega
  obtain ⟨⟨ρ1, wl, a1, a2, a3, a4⟩⟩ := h2
  have hz : ρ1 nb = 0 := a2.old nb hl h0
  have hkk : w2.heap[nb]? = wA.heap[nb]? := a2.tch.block nb hl (fun q => q.1 h0)
  have hn1 : ¬ isN w2 nb := fun ⟨C, fr, hC⟩ => hn ⟨C, fr, by rw [← hkk]; exact hC⟩
  have hoth : ∀ g, (ρ1 g ≠ 0 ∨ isN w2 g) → w3.heap[g]? = w2.heap[g]? := fun g q => by
    refine ht.block g ?_ (fun e => ?_)
    · rcases q with q | q
      · exact (a1.lt g q).1
      · exact isN_lt q
    · subst e
      rcases q with q | q
      · exact q hz
      · exact hn1 q
  have hpre : LStp w w2 ρ ρ1 := LStp.pre hb a2
  have hsm := a4.pre h hb
  refine ⟨⟨ρ1, wl, a1.same hoth ht.size, ⟨hpre.tch.trans ht (fun k hk e => absurd hk (by omega)), hpre.old⟩, a3, fun g q => ?_⟩⟩
  have hl : g < w.heap.size := by
    rcases q with q | q
    · exact (h.lt g (by omega)).1
    · exact isN_lt q
  exact (ht.block g (Nat.lt_of_lt_of_le hl hpre.tch.size) (by omega)).trans (hsm g q)
theorem Laid.keep {w w2 : World} {ρ : Nat → Nat} {B N lb : Nat} {G : Gh} {L : Lg} {ks : List Wk} (h : Laid w w2 ρ B N lb G L ks) {k : Nat} (hk : k < w.heap.size) (h0 : ρ k = 0) : w2.heap[k]? = w.heap[k]? := by
  obtain ⟨⟨ρ1, wl, a1, a2, a3, a4⟩⟩ := h
  exact a2.tch.block k hk (fun q => q.1 h0)
theorem LogX.zero {w : World} {ρ : Nat → Nat} {B N lb : Nat} {G : Gh} {L : Lg} (h : LogX w ρ B N lb G L) {k : Nat} (hk : w.heap.size ≤ k) : ρ k = 0 := by
  apply Classical.byContradiction
  intro q
  have := (h.lt k q).1
  omega
theorem task_size : (Tryz.prog.info? 108).map (·.size) = some 2 := by
  have := Tryz.info108
  cases h' : Tryz.prog.info? 108 with
  | none => rw [h'] at this; cases this
  | some i => rw [h'] at this; simp at this; simp [this]
/-- What is behind a give into a box of the call's own. -/
theorem give_box {w wA w2 : World} {ρ : Nat → Nat} {B N lb : Nat} {G : Gh} {L : Lg} {ks : List Wk} (h : LogX w ρ B N lb G L) (hb : Below w.heap.size w wA) {nb : Nat} (hnb : w.heap.size ≤ nb) (hn0 : wA.heap[nb]? = some (Obj.cells #[.int .i64 0, .int .i64 0] 108 (0, 0))) (h2 : Laid wA w2 ρ B N lb G L ks) (x : Nat) :
    (w2.cell? ⟨nb, 0, none⟩ = some (.int .i64 0) ∧ w2.frozen? ⟨nb, 0, none⟩ = false) ∧ (w2.cell? ⟨nb, 1, none⟩ = some (.int .i64 0) ∧ w2.frozen? ⟨nb, 1, none⟩ = false) ∧
    Hid (Laid w ((w2.setCell ⟨nb, 0, none⟩ (.int .i64 (x : Int))).setCell ⟨nb, 1, none⟩ (.int .i64 ((x : Int) + 1))) ρ B N lb G L ks) ∧
    Hid ((loadVar 108 ⟨nb, 0, none⟩).run Tryz.prog ((w2.setCell ⟨nb, 0, none⟩ (.int .i64 (x : Int))).setCell ⟨nb, 1, none⟩ (.int .i64 ((x : Int) + 1))) = .ok (tkV x) ((w2.setCell ⟨nb, 0, none⟩ (.int .i64 (x : Int))).setCell ⟨nb, 1, none⟩ (.int .i64 ((x : Int) + 1)))) := by
  have hl := (Array.getElem?_eq_some_iff.1 hn0).1
  have hk := (h2.keep hl (h.zero hnb)).trans hn0
  refine ⟨cell_of hk rfl, cell_of hk rfl, ?_, ?_⟩
  · refine Laid.box h hb h2 hnb hl (fun ⟨C, fr, q⟩ => ?_) ⟨rfl, rfl, rfl, by simp, fun k _ e => by rw [set_other e, set_other e]⟩
    rw [hn0] at q
    injection q with q
    injection q with _ q _
    exact absurd q (by decide)
  · exact run_loadVar_row (P := Tryz.prog) _ nb 108 108 _ _ _ (setCell_blk (setCell_blk hk)) Tryz.underlying108 rfl task_size

def era (ks : List Wk) (q i : Nat) : List Wk := ks.set q ⟨(ks.getD q wk0).list.eraseIdx i, (ks.getD q wk0).runs, (ks.getD q wk0).read⟩

set_option maxRecDepth 100000 in
set_option maxHeartbeats 4000000 in
theorem take_own {w : World} {ρ : Nat → Nat} {B N lb : Nat} {G : Gh} {L : Lg} (h : LogX w ρ B N lb G L) (hB : B ≤ w.heap.size) {q : Nat} (hq : q < L.wks.length) (hi : 0 < (L.wks.getD q wk0).list.length) :
    Calls Tryz.prog 88 #[ptrV (G.wb.getD q 0)] w fun e w' => e = .returned (tkV ((L.wks.getD q wk0).list.getD ((L.wks.getD q wk0).list.length - 1) 0)) ∧ Laid w w' ρ B N lb G L (era L.wks q ((L.wks.getD q wk0).list.length - 1)) := by
  obtain ⟨a, c, hwl, hc, hm⟩ := own_slice (h.k.lst q hq)
  have hbA := below_allocG w (Obj.cells #[.int .i64 0, .int .i64 0] 108)
  have hn0 := new_blk w #[.int .i64 0, .int .i64 0] 108
  have hl5 := wk_len (h.k.ok q hq)
  have hA := h.below hbA
  obtain ⟨c1, f1⟩ := cellG (j := 1) (u := .slice a (L.wks.getD q wk0).list.length c) (hA.k.one q hq) (by rw [hwl]; rfl)
  have CG := hide (give_any hA (Nat.le_trans hB hbA.size) hq (i := (L.wks.getD q wk0).list.length - 1) (by omega))
  unfold maxLen at hm
  have FIN := hide (fun w2 ks hL => give_box (w2 := w2) (ks := ks) h hbA (Nat.le_refl _) hn0 hL ((L.wks.getD q wk0).list.getD ((L.wks.getD q wk0).list.length - 1) 0))
  clear hwl hA hbA hn0
  change Hid (Calls _ _ _ _ fun e w' => _ ∧ Laid _ w' ρ B N lb G L (era L.wks q ((L.wks.getD q wk0).list.length - 1))) at CG
  generalize hks : era L.wks q ((L.wks.getD q wk0).list.length - 1) = ks at *
  generalize (L.wks.getD q wk0).list.getD ((L.wks.getD q wk0).list.length - 1) 0 = x at *
  generalize (L.wks.getD q wk0).list.length = n at *
  generalize G.wb.getD q 0 = b at *
  rw [show ((n - 1 : Nat) : Int) = (n : Int) - 1 by omega] at CG
  obtain ⟨W1, hW1⟩ : ∃ W1, W1 = w.alloc (Obj.cells #[.int .i64 0, .int .i64 0] 108) := ⟨_, rfl⟩
  go_enter Tryz.func88, Tryz.ntmps88
  go_wp2_with (first
    | (go_at_call 107; refine CG.out.mono ?_; rintro e w2 ⟨rfl, hL⟩; obtain ⟨⟨k1, k2⟩, ⟨k3, k4⟩, k5, k6⟩ := FIN.out _ _ hL; clear hL))
  refine bodyPost_ret (v := tkV x) ?_ rfl ⟨rfl, k5.out⟩
  have hld := k6.out
  rw [results_cellG rfl]
  simp [asAddr, Result.andThen, hld, tkV]

set_option maxRecDepth 100000 in
set_option maxHeartbeats 4000000 in
theorem take_other {w : World} {ρ : Nat → Nat} {B N lb : Nat} {G : Gh} {L : Lg} (h : LogX w ρ B N lb G L) (hB : B ≤ w.heap.size) {q o : Nat} (hq : q < L.wks.length) (hi : (L.wks.getD q wk0).list.length = 0) (ho : bst L.wks L.wks.length = o) (hio : 0 < (L.wks.getD o wk0).list.length) :
    Calls Tryz.prog 88 #[ptrV (G.wb.getD q 0)] w fun e w' => e = .returned (tkV ((L.wks.getD o wk0).list.getD 0 0)) ∧ Laid w w' ρ B N lb G L (era L.wks o 0) := by
  have ho2 : o < L.wks.length := by rw [← ho]; exact bst_lt _ _ h.k.few.1
  obtain ⟨a, c, hwl, hc, hm⟩ := own_slice (h.k.lst q hq)
  obtain ⟨a2, c2, hwl2, hc2, hm2⟩ := own_slice (h.k.lst o ho2)
  have hbA := below_allocG w (Obj.cells #[.int .i64 0, .int .i64 0] 108)
  have hn0 := new_blk w #[.int .i64 0, .int .i64 0] 108
  have hl5 := wk_len (h.k.ok o ho2)
  have hA := h.below hbA
  rw [hi] at hwl hc
  obtain ⟨c1, f1⟩ := cellG (j := 1) (u := .slice a 0 c) (hA.k.one q hq) (by rw [hwl]; rfl)
  obtain ⟨c0, f0⟩ := cellG (j := 0) (u := ptrV lb) (hA.k.one q hq) rfl
  obtain ⟨c14, _⟩ := cell_of (j := 14) (u := G.wr) hA.b.blk rfl
  obtain ⟨a4, c4, hwr, _, _⟩ := own_slice h.k.row
  have CM := hide (wkMax_any hA.wksRd h.k.few.1 (fun j hj => Nat.le_trans (wk_len (h.k.ok j hj)) (by omega)))
  rw [ho] at CM
  rw [hwr] at c14 CM
  have HLO : Hid (∀ w1, Below (w.alloc (Obj.cells #[.int .i64 0, .int .i64 0] 108)).heap.size (w.alloc (Obj.cells #[.int .i64 0, .int .i64 0] 108)) w1 → w1.cell? ⟨G.wb.getD o 0, 1, none⟩ = some (.slice a2 (L.wks.getD o wk0).list.length c2) ∧
      Calls Tryz.prog 107 #[ptrV (G.wb.getD o 0), .int .i64 ((0 : Nat) : Int)] w1 fun e w2 => e = .returned (tkV ((L.wks.getD o wk0).list.getD 0 0)) ∧ Laid w1 w2 ρ B N lb G L (era L.wks o 0)) := fun w1 hb1 =>
    ⟨(cellG (j := 1) ((hA.below hb1).k.one o ho2) (by rw [hwl2]; rfl)).1, give_any (hA.below hb1) (Nat.le_trans hB (Nat.le_trans hbA.size hb1.size)) ho2 (i := 0) (by omega)⟩
  unfold maxLen at hm hm2
  have FIN := hide (fun w1 w2 ks (hb1 : Below (w.alloc (Obj.cells #[.int .i64 0, .int .i64 0] 108)).heap.size (w.alloc (Obj.cells #[.int .i64 0, .int .i64 0] 108)) w1) hL => give_box (wA := w1) (w2 := w2) (ks := ks) h (hbA.trans (hb1.mono hbA.size)) (Nat.le_refl _) ((hb1.block w.heap.size (by simp)).trans hn0) hL ((L.wks.getD o wk0).list.getD 0 0))
  clear hwl hwl2 hA hbA hn0 hwr ho
  generalize hks : era L.wks o 0 = ks at *
  generalize (L.wks.getD o wk0).list.getD 0 0 = x at *
  generalize (L.wks.getD o wk0).list.length = n at *
  generalize G.wb.getD q 0 = b at *
  generalize G.wb.getD o 0 = bo at *
  generalize G.wb.length = nw at *
  have hne : ¬ ((n : Int) = 0) := by omega
  go_enter Tryz.func88, Tryz.ntmps88
  go_wp2_with (first
    | (go_at_call 108; refine CM.out.mono ?_; rintro e w1 ⟨rfl, hb1⟩; have HB1 := hide hb1; obtain ⟨d1, hg⟩ := HLO.out _ hb1; rw [show (((0 : Nat) : Int)) = 0 from rfl] at hg; have CG := hide hg; clear hb1 hg)
    | (go_at_call 107; refine CG.out.mono ?_; rintro e w2 ⟨rfl, hL⟩; obtain ⟨⟨k1, k2⟩, ⟨k3, k4⟩, k5, k6⟩ := FIN.out _ _ _ HB1.out hL; clear hL))
  refine bodyPost_ret (v := tkV x) ?_ rfl ⟨rfl, k5.out⟩
  have hld := k6.out
  rw [results_cellG rfl]
  simp [asAddr, Result.andThen, hld, tkV]

set_option maxRecDepth 100000 in
set_option maxHeartbeats 4000000 in
theorem take_none {w : World} {ρ : Nat → Nat} {B N lb : Nat} {G : Gh} {L : Lg} (h : LogX w ρ B N lb G L) {q o : Nat} (hq : q < L.wks.length) (hi : (L.wks.getD q wk0).list.length = 0) (ho : bst L.wks L.wks.length = o) (hio : (L.wks.getD o wk0).list.length = 0) :
    Calls Tryz.prog 88 #[ptrV (G.wb.getD q 0)] w fun e w' => e = .returned (.agg #[.int .i64 0, .int .i64 0]) ∧ Below w.heap.size w w' := by
  have ho2 : o < L.wks.length := by rw [← ho]; exact bst_lt _ _ h.k.few.1
  obtain ⟨a, c, hwl, hc, hm⟩ := own_slice (h.k.lst q hq)
  obtain ⟨a2, c2, hwl2, hc2, hm2⟩ := own_slice (h.k.lst o ho2)
  have hbA := below_allocG w (Obj.cells #[.int .i64 0, .int .i64 0] 108)
  have hn0 := new_blk w #[.int .i64 0, .int .i64 0] 108
  have hA := h.below hbA
  rw [hi] at hwl hc
  rw [hio] at hwl2 hc2
  obtain ⟨c1, f1⟩ := cellG (j := 1) (u := .slice a 0 c) (hA.k.one q hq) (by rw [hwl]; rfl)
  obtain ⟨c0, f0⟩ := cellG (j := 0) (u := ptrV lb) (hA.k.one q hq) rfl
  obtain ⟨c14, _⟩ := cell_of (j := 14) (u := G.wr) hA.b.blk rfl
  obtain ⟨a4, c4, hwr, _, _⟩ := own_slice h.k.row
  have CM := hide (wkMax_any hA.wksRd h.k.few.1 (fun j hj => Nat.le_trans (wk_len (h.k.ok j hj)) (by omega)))
  rw [ho] at CM
  rw [hwr] at c14 CM
  have HLO : Hid (∀ w1, Below (w.alloc (Obj.cells #[.int .i64 0, .int .i64 0] 108)).heap.size (w.alloc (Obj.cells #[.int .i64 0, .int .i64 0] 108)) w1 → w1.cell? ⟨G.wb.getD o 0, 1, none⟩ = some (.slice a2 0 c2) ∧ w1.heap[w.heap.size]? = some (Obj.cells #[.int .i64 0, .int .i64 0] 108 (0, 0)) ∧ Below w.heap.size w w1) := fun w1 hb1 =>
    ⟨(cellG (j := 1) ((hA.below hb1).k.one o ho2) (by rw [hwl2]; rfl)).1, (hb1.block w.heap.size (by simp)).trans hn0, hbA.trans (hb1.mono hbA.size)⟩
  unfold maxLen at hm hm2
  clear hwl hwl2 hA hbA hn0 hwr ho h
  generalize G.wb.getD q 0 = b at *
  generalize G.wb.getD o 0 = bo at *
  generalize G.wb.length = nw at *
  go_enter Tryz.func88, Tryz.ntmps88
  go_wp2_with (first
    | (go_at_call 108; refine CM.out.mono ?_; rintro e w1 ⟨rfl, hb1⟩; obtain ⟨d1, k3, k4⟩ := HLO.out _ hb1; obtain ⟨m0, g0⟩ := cell_of (j := 0) (u := .int .i64 0) k3 rfl; obtain ⟨m1, g1⟩ := cell_of (j := 1) (u := .int .i64 0) k3 rfl; have K3 := hide k3; have K4 := hide k4; clear k3 k4 hb1))
  refine bodyPost_ret (v := .agg #[.int .i64 0, .int .i64 0]) ?_ rfl ⟨rfl, below_set (below_set K4.out (Nat.le_refl _)) (Nat.le_refl _)⟩
  have hld := run_loadVar_row (P := Tryz.prog) _ w.heap.size 108 108 _ _ _ (setCell_blk (j := 1) (v := .int .i64 0) (setCell_blk (j := 0) (v := .int .i64 0) K3.out)) Tryz.underlying108 rfl task_size
  rw [results_cellG rfl]
  simp [asAddr, Result.andThen, hld]
end Go.Proofs.YtkncboinfcnklabGreatDoor

namespace Go.Proofs.YtkncboinfcnklabGreatDoor
open Go.RowKit Go.Deep Go.Shelf Go.Proofs.YtkncboinfcnklabGreatDoor.Mth

set_option maxRecDepth 100000 in
set_option maxHeartbeats 4000000 in
theorem look_some {w : World} {ρ : Nat → Nat} {B N lb : Nat} {G : Gh} {L : Lg} (hB : B ≤ w.heap.size) {q x : Nat} {ks : List Wk} (hq : q < ks.length) (hx : x ≤ 4)
    (CT : Calls Tryz.prog 88 #[ptrV (G.wb.getD q 0)] w fun e w' => e = .returned (tkV x) ∧ Laid w w' ρ B N lb G L ks) :
    Calls Tryz.prog 62 #[ptrV (G.wb.getD q 0)] w fun e w' => e = .returned (.int .i64 1) ∧ Laid w w' ρ B N lb G L (ks.set q ⟨(ks.getD q wk0).list, some x, (ks.getD q wk0).read⟩) := by
  have FIN : Hid (∀ w1, Laid w w1 ρ B N lb G L ks →
      (((w1.alloc (Obj.cells #[.int .i64 (x : Int), .int .i64 ((x : Int) + 1)] 108)).cell? ⟨G.wb.getD q 0, 2, none⟩).isSome = true ∧ ((w1.alloc (Obj.cells #[.int .i64 (x : Int), .int .i64 ((x : Int) + 1)] 108)).cell? ⟨G.wb.getD q 0, 3, none⟩).isSome = true ∧ ((w1.alloc (Obj.cells #[.int .i64 (x : Int), .int .i64 ((x : Int) + 1)] 108)).cell? ⟨G.wb.getD q 0, 5, none⟩).isSome = true ∧ ∀ j, (w1.alloc (Obj.cells #[.int .i64 (x : Int), .int .i64 ((x : Int) + 1)] 108)).frozen? ⟨G.wb.getD q 0, j, none⟩ = false) ∧
      Laid w ((((w1.alloc (Obj.cells #[.int .i64 (x : Int), .int .i64 ((x : Int) + 1)] 108)).setCell ⟨G.wb.getD q 0, 2, none⟩ (.int .i64 (x : Int))).setCell ⟨G.wb.getD q 0, 3, none⟩ (.int .i64 ((x : Int) + 1))).setCell ⟨G.wb.getD q 0, 5, none⟩ (nxV (G.wb.getD q 0) (some x))) ρ B N lb G L (ks.set q ⟨(ks.getD q wk0).list, some x, (ks.getD q wk0).read⟩)) := by
    intro w1 hL
    obtain ⟨⟨ρ1, wl1, a1, a2, a3, a4⟩⟩ := hL
    have hBl := below_allocG w1 (Obj.cells #[.int .i64 (x : Int), .int .i64 ((x : Int) + 1)] 108)
    have hA := a1.below hBl
    have hblk := hA.k.one q hq
    have hblk1 := a1.k.one q hq
    have hbl := (Array.getElem?_eq_some_iff.1 hblk1).1
    have hbb : ({ G with wl := wl1 } : Gh).wb = G.wb := rfl
    refine ⟨⟨?_, ?_, ?_, fun j => ?_⟩, ?_⟩
    · rw [(cellG (j := 2) hblk rfl).1]; rfl
    · rw [(cellG (j := 3) hblk rfl).1]; rfl
    · rw [(cellG (j := 5) hblk rfl).1]; rfl
    · simp only [World.frozen?]
      rw [hblk]
      simp
    · refine Laid.trans (wl1 := wl1) (ks := ks) a2 a3 a4 ?_
      have hne : ∀ g, some g = (wl1 q).ownBlock → g ≠ G.wb.getD q 0 := fun g e e2 => by
        obtain ⟨_, _, D, hD⟩ := own_block (a1.k.lst q hq) e
        rw [e2] at hD
        exact cells_ne hblk1 hD (by decide) rfl
      have ht := a1.wkFin (w' := (((w1.alloc (Obj.cells #[.int .i64 (x : Int), .int .i64 ((x : Int) + 1)] 108)).setCell ⟨G.wb.getD q 0, 2, none⟩ (.int .i64 (x : Int))).setCell ⟨G.wb.getD q 0, 3, none⟩ (.int .i64 ((x : Int) + 1))).setCell ⟨G.wb.getD q 0, 5, none⟩ (nxV (G.wb.getD q 0) (some x))) (Nat.le_trans hB a2.tch.size) hq ⟨(ks.getD q wk0).list, some x, (ks.getD q wk0).read⟩ (wl1 q)
        ⟨hBl.os, hBl.tape, hBl.output, by simp, fun k hk e => by
          rw [set_other (fun e' => e (Or.inl e')), set_other (fun e' => e (Or.inl e')), set_other (fun e' => e (Or.inl e'))]
          exact hBl.block k hk⟩
        (by rw [setCell_blk (setCell_blk (setCell_blk hblk))]; rfl)
        (own_same (a1.k.lst q hq) (fun g e => by
          rw [set_other (hne g e), set_other (hne g e), set_other (hne g e)]
          exact hBl.block g (own_block (a1.k.lst q hq) e).2.1))
        (fun g e => Or.inl e)
        ⟨⟨(a1.k.ok q hq).1.1, fun y hy => by injection hy with hy; omega⟩, (a1.k.ok q hq).2⟩
      obtain ⟨ρ', r1, r2, r3, r4⟩ := ht
      exact ⟨⟨ρ', _, r1, r2, r3, r4⟩⟩
  have hne : ¬ ((x : Int) + 1 = 0) := by omega
  have HCT := hide CT
  clear CT
  generalize ks.set q ⟨(ks.getD q wk0).list, some x, (ks.getD q wk0).read⟩ = ks' at *
  generalize G.wb.getD q 0 = b at *
  go_enter Tryz.func62, Tryz.ntmps62
  go_wp2_with (first
    | (go_at_call 88; refine HCT.out.mono ?_; rintro e w1 ⟨rfl, hL⟩; obtain ⟨⟨k2, k3, k5, kf⟩, hL2⟩ := FIN.out _ hL; obtain ⟨u2, k2⟩ := Option.isSome_iff_exists.1 k2; obtain ⟨u3, k3⟩ := Option.isSome_iff_exists.1 k3; obtain ⟨u5, k5⟩ := Option.isSome_iff_exists.1 k5; have f2 := kf 2; have f3 := kf 3; have f5 := kf 5; have HL2 := hide hL2; clear hL hL2 kf))
  all_goals (
    go_ret
    exact ⟨rfl, HL2.out⟩)

set_option maxRecDepth 100000 in
set_option maxHeartbeats 4000000 in
theorem look_none {w : World} {b : Nat} (CT : Calls Tryz.prog 88 #[ptrV b] w fun e w' => e = .returned (.agg #[.int .i64 0, .int .i64 0]) ∧ Below w.heap.size w w') :
    Calls Tryz.prog 62 #[ptrV b] w fun e w' => e = .returned (.int .i64 0) ∧ Below w.heap.size w w' := by
  have HCT := hide CT
  clear CT
  go_enter Tryz.func62, Tryz.ntmps62
  go_wp2_with (first
    | (go_at_call 88; refine HCT.out.mono ?_; rintro e w1 ⟨rfl, hL⟩; have HL := hide hL; clear hL))
  go_ret
  exact ⟨rfl, HL.out.trans ((below_allocG _ _).mono HL.out.size)⟩
end Go.Proofs.YtkncboinfcnklabGreatDoor

namespace Go.Proofs.YtkncboinfcnklabGreatDoor
open Go.RowKit Go.Deep Go.Shelf Go.Proofs.YtkncboinfcnklabGreatDoor.Mth

/-- What the tails' map holds. -/
def TlD (D : DataW Value) (tls : Int → Option (ByteArray × Nat)) : Prop := ∀ x : Int, (Maps.has D (.int .i64 x) = (tls x).isSome) ∧ ∀ p, tls x = some p → D.atKey (.int .i64 x) zT = .held (tlV p)

theorem wpList_next_tails {P : Program} (w : World) {ops : Array Oper} {rest : List Oper} {o : Oper} {a : Act} {Q : Exit → Act → World → Prop} (hg : o.guard = none) (it : Operand) (hop : o.op = Op.next it false) (hk3 : P.underlying 3 = some (.int .i64)) {tls : Int → Option (ByteArray × Nat)}
    (b r n : Nat) (D : DataW Value) (hD : TlD D tls) (left : Lit → Bool) (hleft : ∀ kl, left kl = true → Maps.has D kl = true) (cnt : Nat) (hit : a.eval it = .pointer (some ⟨r, 0, none⟩)) (h : w.ranges P 3 idE b r n D left cnt)
    (hDone : cnt = 0 → (∀ kl, left kl = false) → wpList P ops Q rest (a.put o.dst (.tuple #[.bool false])) w)
    (hMore : ∀ (x : Int) (p : ByteArray × Nat) (w' : World) (cnt' : Nat), tls x = some p → w'.ranges P 3 idE b r n D (fun z => left z && !z.sameKey (.int .i64 x)) cnt' → cnt' < cnt →
      w.grownBy w' (some r) → w'.heap.size = w.heap.size → (Instr.entry (.pointer (some ⟨r, 0, none⟩))).run P w' = .ok (.tuple #[.int .i64 x, tlV p]) w' → wpList P ops Q rest (a.put o.dst (.tuple #[.bool true, .int .i64 x, tlV p])) w') :
    wpList P ops Q (o :: rest) a w :=
  wpList_next_ranges w hg it hop 3 (Maps.int_keyed hk3) idE (Value.int .i64) id (fun key kl hkey => by obtain ⟨x, rfl, _⟩ := Maps.keyOf_int_inv hk3 hkey; exact ⟨x, rfl⟩) (fun v y hv => ⟨v, rfl⟩)
    b r n D left cnt hit h hDone (fun x c kl y w' cnt' hkey hlk hv hat hrg hlt hgr hsz hen => by
      obtain ⟨x', ex, rfl, hwx⟩ := Maps.keyOf_int_inv hk3 hkey
      cases ex
      have hh := hleft _ hlk
      rw [(hD x).1] at hh
      obtain ⟨p, hp⟩ := Option.isSome_iff_exists.1 hh
      have h1 := (hD x).2 p hp
      rw [hat zT] at h1
      have h2 := idE_inv (d := y.1) (ps := y.2) hv
      rw [h2] at h1
      injection h1 with h1
      have h3 : c = tlV p := h1
      subst h3
      exact hMore x p w' cnt' hp hrg hlt hgr hsz hen)

/-- The least sequence number of which a tail still has need. -/
def Need (L : Lg) (m : Nat) : Prop := m ≤ L.count ∧ (∀ x p, L.tls x = some p → m ≤ p.2) ∧ (m = L.count ∨ ∃ x p, L.tls x = some p ∧ m = p.2)

theorem below_only {w wr w' : World} {r : Nat} (hb : Below w.heap.size w wr) (hr : w.heap.size ≤ r) (hg : wr.grownBy w' (some r)) : Below w.heap.size w w' :=
  ⟨hg.os.trans hb.os, hg.tape.trans hb.tape, hg.output.trans hb.output, Nat.le_trans hb.size hg.size, fun k hk => (hg.block k (Nat.lt_of_lt_of_le hk hb.size) (fun q => by injection q with q; omega)).trans (hb.block k hk)⟩
theorem below_none {w wr w' : World} (hb : Below w.heap.size w wr) (hg : wr.grownBy w' none) : Below w.heap.size w w' :=
  ⟨hg.os.trans hb.os, hg.tape.trans hb.tape, hg.output.trans hb.output, Nat.le_trans hb.size hg.size, fun k hk => (hg.block k (Nat.lt_of_lt_of_le hk hb.size) (fun q => by cases q)).trans (hb.block k hk)⟩

set_option maxRecDepth 100000 in
set_option maxHeartbeats 4000000 in
theorem needed_any {w : World} {ρ : Nat → Nat} {B N lb : Nat} {G : Gh} {L : Lg} (h : LogX w ρ B N lb G L) :
    Calls Tryz.prog 155 #[ptrV lb] w fun e w' => ∃ m : Nat, e = .returned (.int .i64 (m : Int)) ∧ Need L m ∧ Below w.heap.size w w' := by
  obtain ⟨c6, _⟩ := cell_of (j := 6) (u := ptrV G.jb) h.b.blk rfl
  obtain ⟨c15, _⟩ := cell_of (j := 15) (u := .map (some G.tm)) h.b.blk rfl
  have CN := hide (jNext_any h.j.j)
  obtain ⟨D, n, hown, _, _, hD⟩ := h.t.map
  have hD : TlD D L.tls := hD
  have hlt := hown.lt
  have HN : Hid (∀ m : Nat, Need L m ↔ (m ≤ L.count ∧ (∀ x p, L.tls x = some p → m ≤ p.2) ∧ (m = L.count ∨ ∃ x p, L.tls x = some p ∧ m = p.2))) := fun m => Iff.rfl
  clear h
  generalize G.jb = jb at *
  generalize G.tm = tm at *
  generalize L.count = ct at *
  generalize L.tls = tls at *
  have HD := hide hD
  clear hD
  go_enter Tryz.func155, Tryz.ntmps155
  go_wp2_with (first
    | (go_at_call 46; refine CN.out.mono ?_; rintro e w1 ⟨rfl, hw1⟩; subst hw1)
    | (at_range; refine wpList_range_own _ rfl _ 76 rfl 3 112 (Maps.int_keyed Tryz.underlying3) Tryz.underlying76 idE _ _ _ rfl hown ?_; intro w0 hrg0 hg0 hs0))
  go_frame
  go_loopw [3] (fun v wr => ∃ (left : Lit → Bool) (cnt m : Nat), wr.ranges Tryz.prog 3 idE tm w1.heap.size n D left cnt ∧ v = .int .i64 (m : Int) ∧ (∀ kl, left kl = true → Maps.has D kl = true) ∧ (m ≤ ct ∧ (∀ x p, tls x = some p → left (.int .i64 x) = false → m ≤ p.2) ∧ (m = ct ∨ ∃ x p, tls x = some p ∧ m = p.2)) ∧ Below w1.heap.size w1 wr) (fun _ wr => wr.rangeLeft tm w1.heap.size)
  case atStart =>
    refine ⟨_, _, ct, hrg0, rfl, fun _ q => q, ⟨Nat.le_refl _, fun x p q q2 => ?_, Or.inl rfl⟩, below_none (Below.refl _ _) hg0⟩
    rw [(HD.out x).1, q] at q2
    cases q2
  case round =>
    obtain ⟨left, cnt, m, hrg, rfl, hlf, hm, hb⟩ := hrel
    have HM := hide hm
    have HRG := hide hrg
    have HB := hide hb
    have HLF := hide hlf
    clear hm hb hlf
    go_wp2_with (first
      | (at_next; refine wpList_next_tails _ rfl _ rfl Tryz.underlying3 tm w1.heap.size n D HD.out left HLF.out cnt rfl hrg ?_ ?_))
    · intro hc0 hl0
      have HF := hide ((HN.out m).2 ⟨HM.out.1, fun x p q => HM.out.2.1 x p q (hl0 _), HM.out.2.2⟩)
      clear hl0
      go_wp2
      go_ret
      exact ⟨m, rfl, HF.out, HB.out⟩
    · intro x px pn w2 cnt2 hp hrg2 hlt2 hg2 hs2 hen
      have HB2 := hide (below_only HB.out (Nat.le_refl _) hg2)
      have HR2 := hide hrg2
      have HP := hide hp
      clear hg2 hrg2 hp hrg0 hg0 hs0 hrg
      simp only [tlV] at hen ⊢
      go_wp2
      go_roundw
      case rel =>
        refine ⟨_, cnt2, min m pn, HR2.out.alloc _, by go_num, fun kl q => HLF.out kl (by simp at q; exact q.1), ⟨Nat.le_trans (Nat.min_le_left _ _) HM.out.1, fun y p q q2 => ?_, ?_⟩, HB2.out.trans ((below_allocG w2 _).mono HB2.out.size)⟩
        · by_cases hyx : y = x
          · subst hyx
            rw [HP.out] at q
            injection q with q
            rw [← q]
            exact Nat.min_le_right _ _
          · refine Nat.le_trans (Nat.min_le_left _ _) (HM.out.2.1 y p q ?_)
            simp only [Bool.and_eq_false_iff] at q2
            rcases q2 with q2 | q2
            · exact q2
            · exfalso
              simp [Lit.sameKey] at q2
              exact hyx q2
        · rcases Nat.le_total m pn with hle | hle
          · rw [Nat.min_eq_left hle]; exact HM.out.2.2
          · rw [Nat.min_eq_right hle]; exact Or.inr ⟨x, _, HP.out, rfl⟩
      case measure => rw [(HR2.out.alloc _).left_eq, HRG.out.left_eq]; exact hlt2
end Go.Proofs.YtkncboinfcnklabGreatDoor
