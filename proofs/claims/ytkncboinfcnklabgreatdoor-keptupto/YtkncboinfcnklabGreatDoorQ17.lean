import Derived.Test.YtkncboinfcnklabGreatDoorQ16
namespace Go.Proofs.YtkncboinfcnklabGreatDoor
open Go.RowKit Go.Deep Go.Shelf Go.Proofs.YtkncboinfcnklabGreatDoor.Mth

theorem LogX.wkSet {w w' : World} {ρ : Nat → Nat} {B N lb : Nat} {G : Gh} {L : Lg} (h : LogX w ρ B N lb G L) (hB : B ≤ w.heap.size) {q : Nat} (hq : q < L.wks.length) (k' : Wk) (hl : k'.list = (L.wks.getD q wk0).list) (hr : ∀ y, k'.runs = some y → y ≤ 4) (ht : Tch (fun g => g = G.wb.getD q 0) w w')
    (hblk : w'.heap[G.wb.getD q 0]? = some (Obj.cells (wkC lb (G.wb.getD q 0) k' (G.wl q)) 110 (0, 0))) : Laid w w' ρ B N lb G L (L.wks.set q k') := by
  have hne : ∀ g, some g = (G.wl q).ownBlock → g ≠ G.wb.getD q 0 := fun g e e2 => by
    obtain ⟨_, _, D, hD⟩ := own_block (h.k.lst q hq) e
    rw [e2] at hD
    exact cells_ne (h.k.one q hq) hD (by decide) rfl
  have hf := h.wkFin (w' := w') hB hq k' (G.wl q) (ht.mono (fun k _ e => Or.inl e)) hblk
    (by rw [hl]; exact own_same (h.k.lst q hq) (fun g e => ht.block g (own_block (h.k.lst q hq) e).2.1 (hne g e)))
    (fun g e => Or.inl e)
    ⟨⟨by rw [hl]; exact (h.k.ok q hq).1.1, hr⟩, by rw [hl]; exact (h.k.ok q hq).2⟩
  obtain ⟨ρ', r1, r2, r3, r4⟩ := hf
  exact ⟨⟨ρ', _, r1, r2, r3, r4⟩⟩

set_option maxRecDepth 100000 in
set_option maxHeartbeats 8000000 in
theorem readOn_more {w : World} {ρ : Nat → Nat} {B N lb : Nat} {G : Gh} {L : Lg} (h : LogX w ρ B N lb G L) (hB : B ≤ w.heap.size) {q : Nat} (hq : q < L.wks.length) (hr : (L.wks.getD q wk0).read + 1 < L.fan) (hf4 : L.fan ≤ 4) :
    Calls Tryz.prog 89 #[ptrV (G.wb.getD q 0)] w fun e w' => e = .returned (.int .i64 1) ∧ Laid w w' ρ B N lb G L (L.wks.set q ⟨(L.wks.getD q wk0).list, (L.wks.getD q wk0).runs, (L.wks.getD q wk0).read + 1⟩) := by
  have hblk := h.k.one q hq
  obtain ⟨c4, f4⟩ := cellG (j := 4) (u := .int .i64 ((L.wks.getD q wk0).read : Int)) hblk rfl
  obtain ⟨cf, _⟩ := cell_of (j := 1) (u := .int .i64 (L.fan : Int)) h.b.blk rfl
  have hlb : lb ≠ G.wb.getD q 0 := fun e => cells_ne h.b.blk hblk (by decide) e
  have hsb : (w.setCell ⟨G.wb.getD q 0, 4, none⟩ (.int .i64 (((L.wks.getD q wk0).read : Int) + 1))).heap[G.wb.getD q 0]? = some (Obj.cells (wkC lb (G.wb.getD q 0) ⟨(L.wks.getD q wk0).list, (L.wks.getD q wk0).runs, (L.wks.getD q wk0).read + 1⟩ (G.wl q)) 110 (0, 0)) := by rw [setCell_blk hblk]; rfl
  obtain ⟨e0, _⟩ := cellG (j := 0) (u := ptrV lb) hsb rfl
  obtain ⟨e4, _⟩ := cellG (j := 4) (u := .int .i64 (((L.wks.getD q wk0).read + 1 : Nat) : Int)) hsb rfl
  have ef : (w.setCell ⟨G.wb.getD q 0, 4, none⟩ (.int .i64 (((L.wks.getD q wk0).read : Int) + 1))).cell? ⟨lb, 1, none⟩ = some (.int .i64 (L.fan : Int)) := (cell_of (j := 1) ((set_other hlb).trans h.b.blk) rfl).1
  have FIN : Hid (∀ nq, Laid w ((w.setCell ⟨G.wb.getD q 0, 4, none⟩ (.int .i64 (((L.wks.getD q wk0).read : Int) + 1))).drewN nq) ρ B N lb G L (L.wks.set q ⟨(L.wks.getD q wk0).list, (L.wks.getD q wk0).runs, (L.wks.getD q wk0).read + 1⟩)) := fun nq =>
    h.wkSet hB hq _ rfl (h.k.ok q hq).1.2 ⟨rfl, rfl, rfl, by simp, fun k _ e => set_other (w := w) e⟩ hsb
  rw [show (((L.wks.getD q wk0).read + 1 : Nat) : Int) = ((L.wks.getD q wk0).read : Int) + 1 by omega] at e4
  have hlt : ((L.wks.getD q wk0).read : Int) + 1 < (L.fan : Int) := by omega
  clear h hblk hsb
  generalize L.wks.set q ⟨(L.wks.getD q wk0).list, (L.wks.getD q wk0).runs, (L.wks.getD q wk0).read + 1⟩ = ks at *
  generalize (L.wks.getD q wk0).read = rd at *
  generalize G.wb.getD q 0 = b at *
  generalize L.fan = fan at *
  obtain ⟨WA, hWA⟩ : ∃ WA, WA = w.setCell ⟨b, 4, none⟩ (.int .i64 ((rd : Int) + 1)) := ⟨_, rfl⟩
  go_enter Tryz.func89, Tryz.ntmps89
  go_wp2_with fail
  go_quiet (fail)
  go_wp2
  go_ret
  exact ⟨rfl, FIN.out _⟩

set_option maxRecDepth 100000 in
set_option maxHeartbeats 8000000 in
theorem readOn_end {w : World} {ρ : Nat → Nat} {B N lb : Nat} {G : Gh} {L : Lg} (h : LogX w ρ B N lb G L) (hB : B ≤ w.heap.size) (ht : TabB B w) {q i : Nat} (hq : q < L.wks.length) (hru : (L.wks.getD q wk0).runs = some i) (hr : L.fan ≤ (L.wks.getD q wk0).read + 1) (hrd : (L.wks.getD q wk0).read ≤ 100) (hf : L.fan ≤ (L.lev i).length) (hf1 : 1 ≤ L.fan) (hf4 : L.fan ≤ 4) (hc : L.clock ≤ 1000000000000) (hk : L.keep ≤ 1000000)
    (hl : ∀ i, i < 6 → (L.lev i).length ≤ 500000) (hT : ((L.lev i).take L.fan).flatten.length ≤ 1048576) (hx : ∀ es ∈ L.lev i, ∀ e ∈ es, e.text.size ≤ 60) :
    Calls Tryz.prog 89 #[ptrV (G.wb.getD q 0)] w fun e w' => e = .returned (.int .i64 2) ∧ ∃ m, Need L m ∧ XStp w w' ρ B N lb G (Lg.ends { L with wks := L.wks.set q ⟨(L.wks.getD q wk0).list, none, 0⟩ } i m) := by
  obtain ⟨EN, hEN⟩ : ∃ EN : Nat → Lg, ∀ m, EN m = Lg.ends { L with wks := L.wks.set q ⟨(L.wks.getD q wk0).list, none, 0⟩ } i m := ⟨_, fun _ => rfl⟩
  refine Calls.mono (R := fun e w' => e = .returned (.int .i64 2) ∧ ∃ m, Need L m ∧ XStp w w' ρ B N lb G (EN m)) ?_ (fun e w' => by
    rintro ⟨h1, m, h2, h3⟩
    rw [hEN] at h3
    exact ⟨h1, m, h2, h3⟩)
  have hi4 : i ≤ 4 := (h.k.ok q hq).1.2 i hru
  have hblk := h.k.one q hq
  obtain ⟨c4, f4⟩ := cellG (j := 4) (u := .int .i64 ((L.wks.getD q wk0).read : Int)) hblk rfl
  have hlb : lb ≠ G.wb.getD q 0 := fun e => cells_ne h.b.blk hblk (by decide) e
  have hbw : G.wb.getD q 0 < w.heap.size := (Array.getElem?_eq_some_iff.1 hblk).1
  have hsb : (w.setCell ⟨G.wb.getD q 0, 4, none⟩ (.int .i64 (((L.wks.getD q wk0).read : Int) + 1))).heap[G.wb.getD q 0]? = some (Obj.cells (wkC lb (G.wb.getD q 0) ⟨(L.wks.getD q wk0).list, (L.wks.getD q wk0).runs, (L.wks.getD q wk0).read + 1⟩ (G.wl q)) 110 (0, 0)) := by rw [setCell_blk hblk]; rfl
  have ef : (w.setCell ⟨G.wb.getD q 0, 4, none⟩ (.int .i64 (((L.wks.getD q wk0).read : Int) + 1))).heap[lb]? = some (Obj.cells (lgC G L) 78 (0, 0)) := (set_other hlb).trans h.b.blk
  have hsz : (w.setCell ⟨G.wb.getD q 0, 4, none⟩ (.int .i64 (((L.wks.getD q wk0).read : Int) + 1))).heap.size = w.heap.size := by simp
  obtain ⟨WA, hWA⟩ : ∃ WA, WA = w.setCell ⟨G.wb.getD q 0, 4, none⟩ (.int .i64 (((L.wks.getD q wk0).read : Int) + 1)) := ⟨_, rfl⟩
  rw [← hWA] at hsb ef hsz
  have hoth : ∀ k, k ≠ G.wb.getD q 0 → WA.heap[k]? = w.heap[k]? := fun k e => by rw [hWA]; exact set_other e
  have htA : WA.os = w.os ∧ WA.tape = w.tape ∧ WA.output = w.output := by rw [hWA]; exact ⟨rfl, rfl, rfl⟩
  -- what is there when the task ends
  have FIN : Hid (∀ (nq : Nat) (WB : World), WB = (WA.drewN nq).alloc (Obj.cells #[.int .i64 (i : Int), .int .i64 ((i : Int) + 1)] 108) →
      (∀ j, WB.frozen? ⟨G.wb.getD q 0, j, none⟩ = false) ∧ WB.cell? ⟨G.wb.getD q 0, 2, none⟩ = some (.int .i64 (i : Int)) ∧ WB.cell? ⟨G.wb.getD q 0, 3, none⟩ = some (.int .i64 ((i : Int) + 1)) ∧ WB.cell? ⟨G.wb.getD q 0, 4, none⟩ = some (.int .i64 (((L.wks.getD q wk0).read : Int) + 1)) ∧ WB.cell? ⟨G.wb.getD q 0, 5, none⟩ = some (nxV (G.wb.getD q 0) (some i)) ∧
      ∀ WC, WC = (((WB.setCell ⟨G.wb.getD q 0, 2, none⟩ (.int .i64 0)).setCell ⟨G.wb.getD q 0, 3, none⟩ (.int .i64 0)).setCell ⟨G.wb.getD q 0, 4, none⟩ (.int .i64 0)).setCell ⟨G.wb.getD q 0, 5, none⟩ (nxV (G.wb.getD q 0) none) →
        WC.cell? ⟨G.wb.getD q 0, 0, none⟩ = some (ptrV lb) ∧ WC.cell? ⟨w.heap.size, 0, none⟩ = some (.int .i64 (i : Int)) ∧ WC.cell? ⟨w.heap.size, 1, none⟩ = some (.int .i64 ((i : Int) + 1)) ∧
        ∀ W, Below WC.heap.size WC W → Calls Tryz.prog 110 #[ptrV lb, tkV i] W fun e w' => e = .returned (.tuple #[]) ∧ ∃ m, Need L m ∧ XStp w w' ρ B N lb G (EN m)) := by
    rintro nq WB hWB
    have hbB : Below WA.heap.size WA WB := by rw [hWB]; exact (drewG WA nq).trans ((below_allocG _ _).mono (drewG WA nq).size)
    have hn0 : WB.heap[w.heap.size]? = some (Obj.cells #[.int .i64 (i : Int), .int .i64 ((i : Int) + 1)] 108 (0, 0)) := by
      have := new_blk (WA.drewN nq) #[.int .i64 (i : Int), .int .i64 ((i : Int) + 1)] 108
      rw [show (WA.drewN nq).heap.size = w.heap.size from hsz] at this
      rw [hWB]; exact this
    have hkB := (hbB.block (G.wb.getD q 0) (by omega)).trans hsb
    rw [hru] at hkB
    refine ⟨fun j => ?_, (cellG (j := 2) hkB rfl).1, (cellG (j := 3) hkB rfl).1, ?_, (cellG (j := 5) hkB rfl).1, ?_⟩
    · simp only [World.frozen?]
      rw [hkB]
      simp
    · have := (cellG (j := 4) (u := .int .i64 (((L.wks.getD q wk0).read + 1 : Nat) : Int)) hkB rfl).1
      rw [show (((L.wks.getD q wk0).read + 1 : Nat) : Int) = ((L.wks.getD q wk0).read : Int) + 1 by omega] at this
      exact this
    · rintro WC hWC
      have hkC : WC.heap[G.wb.getD q 0]? = some (Obj.cells (wkC lb (G.wb.getD q 0) ⟨(L.wks.getD q wk0).list, none, 0⟩ (G.wl q)) 110 (0, 0)) := by
        rw [hWC, setCell_blk (setCell_blk (setCell_blk (setCell_blk hkB)))]
        rfl
      have hoC : ∀ k, k ≠ G.wb.getD q 0 → WC.heap[k]? = WB.heap[k]? := fun k e => by rw [hWC, set_other e, set_other e, set_other e, set_other e]
      have hszC : WC.heap.size = WB.heap.size := by rw [hWC]; simp
      have hnC := (hoC w.heap.size (by omega)).trans hn0
      have hLd : Laid w WC ρ B N lb G L (L.wks.set q ⟨(L.wks.getD q wk0).list, none, 0⟩) := h.wkSet hB hq ⟨(L.wks.getD q wk0).list, none, 0⟩ rfl (fun y e => by cases e) ⟨by rw [hWC]; exact hbB.os.trans htA.1, by rw [hWC]; exact hbB.tape.trans htA.2.1, by rw [hWC]; exact hbB.output.trans htA.2.2, by rw [hszC]; have := hbB.size; omega, fun k hk e => (hoC k e).trans ((hbB.block k (by omega)).trans (hoth k e))⟩ hkC
      refine ⟨(cellG (j := 0) hkC rfl).1, (cell_of (j := 0) hnC rfl).1, (cell_of (j := 1) hnC rfl).1, fun W hW => ?_⟩
      obtain ⟨⟨ρ1, G1, a1, a2, a3, a4, a5⟩⟩ := hLd.xstp
      have hzW : w.heap.size ≤ W.heap.size := Nat.le_trans a3.tch.size hW.size
      have hBW : Below B w W := below_tch ((below_lstp (Below.refl B w) a3 h.lt hB)) (tch_below hW : Tch (fun _ => False) WC W) (fun k q => q.elim) (Nat.le_trans hB a3.tch.size)
      refine (end_any (L := { L with wks := L.wks.set q ⟨(L.wks.getD q wk0).list, none, 0⟩ }) (a1.below hW) (Nat.le_trans hB hzW) (ht.next hBW) hi4 hf hf1 hf4 hc hk hl hT hx).mono ?_
      rintro e w' ⟨rfl, m, hm, hX⟩
      exact ⟨rfl, m, hm, by rw [hEN]; exact XStp.more a2 a3 a4 a5 (XStp.pre a1 hW hX)⟩
  rw [hru] at hsb
  obtain ⟨e0, _⟩ := cellG (j := 0) (u := ptrV lb) hsb rfl
  obtain ⟨e2, _⟩ := cellG (j := 2) (u := .int .i64 (i : Int)) hsb rfl
  obtain ⟨e3, _⟩ := cellG (j := 3) (u := .int .i64 ((i : Int) + 1)) hsb rfl
  obtain ⟨e4, _⟩ := cellG (j := 4) (u := .int .i64 (((L.wks.getD q wk0).read + 1 : Nat) : Int)) hsb rfl
  obtain ⟨ef, _⟩ := cell_of (j := 1) (u := .int .i64 (L.fan : Int)) ef rfl
  rw [show (((L.wks.getD q wk0).read + 1 : Nat) : Int) = ((L.wks.getD q wk0).read : Int) + 1 by omega] at e4
  have hlt : ¬ ((L.wks.getD q wk0).read : Int) + 1 < (L.fan : Int) := by omega
  clear h hblk hsb hf hr hT hx hl hru hoth htA hEN
  have hrd' := hrd
  generalize (L.wks.getD q wk0).read = rd at *
  generalize G.wb.getD q 0 = b at *
  generalize L.fan = fan at *
  have HWA := hide hWA
  clear hWA
  go_enter Tryz.func89, Tryz.ntmps89
  go_wp2_with fail
  rw [← HWA.out]
  go_quiet (fail)
  have hdec : decide ((rd : Int) + 1 < (fan : Int)) = false := decide_eq_false (by omega)
  rw [hdec]
  clear hdec
  go_upto_region 5 with fail
  obtain ⟨WB, hWB⟩ : ∃ WB, WB = (WA.drewN nq).alloc (Obj.cells #[.int .i64 (i : Int), .int .i64 ((i : Int) + 1)] 108) := ⟨_, rfl⟩
  rw [← hWB]
  obtain ⟨kf, k2, k3, k4, k5, hC⟩ := FIN.out nq WB hWB
  have HWC := hide hC
  have f2 := kf 2
  have f3 := kf 3
  have f4 := kf 4
  have f5 := kf 5
  clear hC kf FIN hWB e0 e2 e3 e4 ef c4 HWA
  go_wp2_with fail
  obtain ⟨WC, hWC⟩ : ∃ WC, WC = (((WB.setCell ⟨b, 2, none⟩ (.int .i64 0)).setCell ⟨b, 3, none⟩ (.int .i64 0)).setCell ⟨b, 4, none⟩ (.int .i64 0)).setCell ⟨b, 5, none⟩ (.func (.func 62) #[ptrV b] #[]) := ⟨_, rfl⟩
  rw [← hWC]
  obtain ⟨d0, d1, d2, hE⟩ := HWC.out WC hWC
  have HE := hide hE
  clear hE hWC HWC k2 k3 k4 k5 f2 f3 f4 f5
  go_region_with (go_at_call 110; refine (HE.out _ (by first | exact drewG _ 1 | exact drewG _ 2 | exact Below.refl _ _)).mono ?_; rintro r w6 ⟨rfl, m, hm, hX⟩; have HM := hide hm; have HX := hide hX; clear hX hm)
  all_goals (
    go_wp2
    go_ret
    exact ⟨rfl, m, HM.out, HX.out⟩)
end Go.Proofs.YtkncboinfcnklabGreatDoor

namespace Go.Proofs.YtkncboinfcnklabGreatDoor
open Go.RowKit Go.Deep Go.Shelf Go.Proofs.YtkncboinfcnklabGreatDoor.Mth

theorem isWithin_any (n a b : Int) (w : World) : Calls Tryz.prog 44 #[.int .i64 n, .int .i64 a, .int .i64 b] w fun e w' => e = .returned (.bool (decide (a ≤ n ∧ n ≤ b))) ∧ w' = w := by
  by_cases h1 : a ≤ n <;> by_cases h2 : n ≤ b
  all_goals (
    go_enter Tryz.func44, Tryz.ntmps44
    go_wp2
    go_ret
    exact ⟨by simp [h1, h2], rfl⟩)

/-- What a worker's step does: what it tells, the log behind it. -/
def StepR (L : Lg) (q : Nat) (r : Int) (L' : Lg) : Prop :=
  match (L.wks.getD q wk0).runs with
  | none =>
    if 0 < (L.wks.getD q wk0).list.length then
      r = 1 ∧ L' = { L with wks := (era L.wks q ((L.wks.getD q wk0).list.length - 1)).set q ⟨((era L.wks q ((L.wks.getD q wk0).list.length - 1)).getD q wk0).list, some ((L.wks.getD q wk0).list.getD ((L.wks.getD q wk0).list.length - 1) 0), ((era L.wks q ((L.wks.getD q wk0).list.length - 1)).getD q wk0).read⟩ }
    else if (L.wks.getD (bst L.wks L.wks.length) wk0).list.length = 0 then r = 0 ∧ L' = L
    else r = 1 ∧ L' = { L with wks := (era L.wks (bst L.wks L.wks.length) 0).set q ⟨((era L.wks (bst L.wks L.wks.length) 0).getD q wk0).list, some ((L.wks.getD (bst L.wks L.wks.length) wk0).list.getD 0 0), ((era L.wks (bst L.wks L.wks.length) 0).getD q wk0).read⟩ }
  | some i =>
    if (L.wks.getD q wk0).read + 1 < L.fan then r = 1 ∧ L' = { L with wks := L.wks.set q ⟨(L.wks.getD q wk0).list, some i, (L.wks.getD q wk0).read + 1⟩ }
    else r = 2 ∧ ∃ m, Need L m ∧ L' = Lg.ends { L with wks := L.wks.set q ⟨(L.wks.getD q wk0).list, none, 0⟩ } i m

theorem era_len (ks : List Wk) (q i : Nat) : (era ks q i).length = ks.length := by simp [era]

/-- What look and readOn do, of the worker's next step. -/
theorem next_any {w : World} {ρ : Nat → Nat} {B N lb : Nat} {G : Gh} {L : Lg} (h : LogX w ρ B N lb G L) (hB : B ≤ w.heap.size) (ht : TabB B w) {q : Nat} (hq : q < L.wks.length) (hru : ∀ i, (L.wks.getD q wk0).runs = some i → L.fan ≤ (L.lev i).length ∧ (L.wks.getD q wk0).read ≤ 100 ∧ ((L.lev i).take L.fan).flatten.length ≤ 1048576 ∧ ∀ es ∈ L.lev i, ∀ e ∈ es, e.text.size ≤ 60) (hf1 : 1 ≤ L.fan) (hf4 : L.fan ≤ 4) (hc : L.clock ≤ 1000000000000) (hk : L.keep ≤ 1000000) (hl : ∀ i, i < 6 → (L.lev i).length ≤ 500000) :
    ∃ f, nxV (G.wb.getD q 0) (L.wks.getD q wk0).runs = .func (.func f) #[ptrV (G.wb.getD q 0)] #[] ∧ (f = 62 ∨ f = 89) ∧ Calls Tryz.prog f #[ptrV (G.wb.getD q 0)] w fun e w' => ∃ r L', e = .returned (.int .i64 r) ∧ StepR L q r L' ∧ XStp w w' ρ B N lb G L' := by
  cases hr : (L.wks.getD q wk0).runs with
  | none =>
    refine ⟨_, rfl, Or.inl rfl, ?_⟩
    by_cases h0 : 0 < (L.wks.getD q wk0).list.length
    · have hx4 : (L.wks.getD q wk0).list.getD ((L.wks.getD q wk0).list.length - 1) 0 ≤ 4 := (h.k.ok q hq).1.1 _ (getDmem (by omega))
      refine (look_some hB (by rw [era_len]; exact hq) hx4 (take_own h hB hq h0)).mono ?_
      rintro e w' ⟨rfl, hL⟩
      refine ⟨1, _, rfl, ?_, hL.xstp⟩
      unfold StepR
      rw [hr]
      simp only
      rw [if_pos h0]
      exact ⟨by trivial, by trivial⟩
    · by_cases ho : (L.wks.getD (bst L.wks L.wks.length) wk0).list.length = 0
      · refine (look_none (take_none h hq (by omega) rfl ho)).mono ?_
        rintro e w' ⟨rfl, hb⟩
        refine ⟨0, _, rfl, ?_, XStp.of_below h hb⟩
        unfold StepR
        rw [hr]
        simp only
        rw [if_neg h0, if_pos ho]
        exact ⟨by trivial, by trivial⟩
      · have ho2 : bst L.wks L.wks.length < L.wks.length := bst_lt _ _ h.k.few.1
        have hx4 : (L.wks.getD (bst L.wks L.wks.length) wk0).list.getD 0 0 ≤ 4 := (h.k.ok _ ho2).1.1 _ (getDmem (by omega))
        refine (look_some hB (by rw [era_len]; exact hq) hx4 (take_other h hB hq (by omega) rfl (by omega))).mono ?_
        rintro e w' ⟨rfl, hL⟩
        refine ⟨1, _, rfl, ?_, hL.xstp⟩
        unfold StepR
        rw [hr]
        simp only
        rw [if_neg h0, if_neg ho]
        exact ⟨by trivial, by trivial⟩
  | some i =>
    refine ⟨_, rfl, Or.inr rfl, ?_⟩
    by_cases h0 : (L.wks.getD q wk0).read + 1 < L.fan
    · refine (readOn_more h hB hq h0 hf4).mono ?_
      rintro e w' ⟨rfl, hL⟩
      refine ⟨1, _, rfl, ?_, hL.xstp⟩
      unfold StepR
      rw [hr]
      simp only
      rw [if_pos h0]
      exact ⟨by trivial, by trivial⟩
    · obtain ⟨a1, a2, a3, a4⟩ := hru i hr
      refine (readOn_end h hB ht hq hr (by omega) a2 a1 hf1 hf4 hc hk hl a3 a4).mono ?_
      rintro e w' ⟨rfl, m, hm, hX⟩
      refine ⟨2, _, rfl, ?_, hX⟩
      unfold StepR
      rw [hr]
      simp only
      rw [if_neg h0]
      exact ⟨by trivial, m, hm, rfl⟩

set_option maxRecDepth 100000 in
set_option maxHeartbeats 4000000 in
theorem step_any {w : World} {ρ : Nat → Nat} {B N lb : Nat} {G : Gh} {L : Lg} (h : LogX w ρ B N lb G L) (hB : B ≤ w.heap.size) (ht : TabB B w) {q : Nat} (hq : q < L.wks.length) (hru : ∀ i, (L.wks.getD q wk0).runs = some i → L.fan ≤ (L.lev i).length ∧ (L.wks.getD q wk0).read ≤ 100 ∧ ((L.lev i).take L.fan).flatten.length ≤ 1048576 ∧ ∀ es ∈ L.lev i, ∀ e ∈ es, e.text.size ≤ 60) (hf1 : 1 ≤ L.fan) (hf4 : L.fan ≤ 4) (hc : L.clock ≤ 1000000000000) (hk : L.keep ≤ 1000000) (hl : ∀ i, i < 6 → (L.lev i).length ≤ 500000) :
    Calls Tryz.prog 24 #[ptrV lb, .int .i64 (q : Int)] w fun e w' => ∃ r L', e = .returned (.tuple #[.int .i64 r, .int .i64 0]) ∧ StepR L q r L' ∧ XStp w w' ρ B N lb G L' := by
  obtain ⟨f, hf, hff, CN⟩ := next_any h hB ht hq hru hf1 hf4 hc hk hl
  have HCN := hide CN
  obtain ⟨c14, _⟩ := cell_of (j := 14) (u := G.wr) h.b.blk rfl
  obtain ⟨a, c, hwr, hcc, hm⟩ := own_slice h.k.row
  have hrow := h.k.row
  rw [hwr] at c14 hrow
  obtain ⟨g, rfl⟩ := own_some hrow (by rw [h.k.len]; exact h.k.few.1)
  have hcell : w.cell? ⟨g, q, none⟩ = some (ptrV (G.wb.getD q 0)) := own_get hrow (by rw [List.getElem?_map, List.getElem?_eq_getElem (by rw [h.k.len]; exact hq), List.getElem_eq_getD 0]; rfl)
  obtain ⟨c5, _⟩ := cellG (j := 5) (u := nxV (G.wb.getD q 0) (L.wks.getD q wk0).runs) (h.k.one q hq) rfl
  rw [hf] at c5
  have CI := hide (isWithin_any (q : Int) 0 ((G.wb.length : Int) - 1) w)
  have hfew := h.k.few.2
  have hln := h.k.len
  rw [decide_eq_true (show (0 : Int) ≤ (q : Int) ∧ (q : Int) ≤ (G.wb.length : Int) - 1 by omega)] at CI
  have hqn : q < G.wb.length := by omega
  unfold maxLen at hm
  have hnn : G.wb.length ≤ 4 := by omega
  clear h CN hf hwr hrow hru hl hln hfew hq
  generalize G.wb.getD q 0 = b at *
  generalize G.wb.length = n at *
  rcases hff with rfl | rfl
  · go_enter Tryz.func24, Tryz.ntmps24
    go_wp2_with (first
      | (go_at_call 44; refine CI.out.mono ?_; rintro e w1 ⟨rfl, hw1⟩; subst hw1)
      | (go_at_call 62; refine HCN.out.mono ?_; rintro e w2 ⟨r, L2, rfl, hs, hX⟩; have HS := hide hs; have HX := hide hX; clear hs hX))
    go_ret2
    exact ⟨r, L2, rfl, HS.out, HX.out⟩
  · go_enter Tryz.func24, Tryz.ntmps24
    go_wp2_with (first
      | (go_at_call 44; refine CI.out.mono ?_; rintro e w1 ⟨rfl, hw1⟩; subst hw1)
      | (go_at_call 89; refine HCN.out.mono ?_; rintro e w2 ⟨r, L2, rfl, hs, hX⟩; have HS := hide hs; have HX := hide hX; clear hs hX))
    go_ret2
    exact ⟨r, L2, rfl, HS.out, HX.out⟩
end Go.Proofs.YtkncboinfcnklabGreatDoor

namespace Go.Proofs.YtkncboinfcnklabGreatDoor
open Go.RowKit Go.Deep Go.Shelf Go.Proofs.YtkncboinfcnklabGreatDoor.Mth

abbrev zTl : Value := .agg #[.string ⟨#[]⟩, .int .i64 0]
theorem Tryz.zeroValue112 (w : World) : (zeroValue 112).run Tryz.prog w = .ok zTl w := by
  have h : (Tryz.prog.info? 112).map (fun i => i.zero) = some (some zTl) := by kernel_rfl
  cases h' : Tryz.prog.info? 112 with
  | none => rw [h'] at h; cases h
  | some i =>
    rw [h'] at h
    simp at h
    simp [zeroValue, typeInfo, h', h]
def wf64 (x : Int) : Prop := (Lit.int .i64 x).wf = true
theorem key3 {x : Int} (hw : wf64 x) : keyOf Tryz.prog 3 (.int .i64 x) = some (.int .i64 x) := Maps.keyOf_int_mk Tryz.underlying3 hw
theorem kl3_ne {x y : Int} (h : x ≠ y) : (Lit.int .i64 x) ≠ .int .i64 y := fun q => h (by injection q)
def tlOr (o : Option (ByteArray × Nat)) : Value := match o with | some p => tlV p | none => zTl

theorem TlsAt.look {w : World} {tm N : Nat} {tls : Int → Option (ByteArray × Nat)} {tn : Nat} (h : TlsAt w tm N tls tn) {x : Int} (hw : wf64 x) :
    (Instr.lookup 76 (.map (some tm)) (.int .i64 x) true).run Tryz.prog w = .ok (.tuple #[tlOr (tls x), .bool (tls x).isSome]) w := by
  obtain ⟨D, n, hm, hn, hs, hD⟩ := h
  obtain ⟨v, ps, hr, hv⟩ := hm.look_ok (Maps.int_keyed Tryz.underlying3) Tryz.underlying76 (Tryz.zeroValue112 w) (zd := zT) (zp := []) rfl (key3 hw)
  have h1 := idE_inv hv
  have e : v = tlOr (tls x) := by
    cases ht : tls x with
    | none =>
      have h2 := (hD x).1
      rw [ht] at h2
      rw [Maps.atKey_of_not_has h2] at h1
      exact (DataW.held.inj h1).symm
    | some p =>
      rw [(hD x).2 p ht] at h1
      exact (DataW.held.inj h1).symm
  rw [hr, (hD x).1, e]
theorem TlsAt.len {w : World} {tm N : Nat} {tls : Int → Option (ByteArray × Nat)} {tn : Nat} (h : TlsAt w tm N tls tn) (ty : TypeId) : (Builtin.len_ #[76] ty #[.map (some tm)]).run Tryz.prog w = .ok (.int .i64 (tn : Int)) w := by
  obtain ⟨D, n, hm, hn, hs, hD⟩ := h
  rw [hm.len Tryz.underlying76 ty, hs]
theorem TlsAt.put {w : World} {tm N : Nat} {tls : Int → Option (ByteArray × Nat)} {tn : Nat} (h : TlsAt w tm N tls tn) {x : Int} (hw : wf64 x) (hN : N < maxLen) (p : ByteArray × Nat) :
    ∃ w', (Instr.mapUpdate 76 (.map (some tm)) (.int .i64 x) (tlV p)).run Tryz.prog w = .ok () w' ∧ TlsAt w' tm (N + 1) (fun y => if y = x then some p else tls y) (if (tls x).isSome then tn else tn + 1) ∧ w.grownBy w' (some tm) := by
  obtain ⟨D, n, hm, hn, hs, hD⟩ := h
  obtain ⟨w', hr, ho, hg⟩ := hm.update (Maps.int_keyed Tryz.underlying3) Tryz.underlying76 (Nat.lt_of_le_of_lt hn hN) (val := tlV p) (d := .held (tlV p)) (ps := []) (key3 hw) rfl
  refine ⟨w', hr, ⟨_, n + 1, ho, by omega, ?_, fun y => ?_⟩, hg⟩
  · rw [Maps.size_put (hm.tidy (Maps.int_keyed Tryz.underlying3)), (hD x).1, hs]
  · by_cases hy : y = x
    · subst hy
      simp only [if_pos]
      refine ⟨Maps.has_put_same hm.isMap (Maps.int_keyed Tryz.underlying3 |>.key (key3 hw)) _, fun p' e => ?_⟩
      rw [← Option.some.inj e]
      exact Maps.atKey_put_same hm.isMap (Maps.int_keyed Tryz.underlying3 |>.key (key3 hw)) _ _
    · simp only [if_neg hy]
      refine ⟨by rw [Maps.has_put_other (kl3_ne hy)]; exact (hD y).1, fun p' e => ?_⟩
      rw [Maps.atKey_put_other (kl3_ne hy)]
      exact (hD y).2 p' e
theorem TlsAt.del {w : World} {tm N : Nat} {tls : Int → Option (ByteArray × Nat)} {tn : Nat} (h : TlsAt w tm N tls tn) {x : Int} (hw : wf64 x) (ty : TypeId) :
    ∃ w', (Builtin.delete_ #[76, 3] ty #[.map (some tm), .int .i64 x]).run Tryz.prog w = .ok (.tuple #[]) w' ∧ TlsAt w' tm N (fun y => if y = x then none else tls y) (if (tls x).isSome then tn - 1 else tn) ∧ w.grownBy w' (some tm) := by
  obtain ⟨D, n, hm, hn, hs, hD⟩ := h
  obtain ⟨w', hr, ho, hg⟩ := hm.drop (Maps.int_keyed Tryz.underlying3) Tryz.underlying76 (key3 hw) ty
  refine ⟨w', hr, ⟨_, n, ho, hn, ?_, fun y => ?_⟩, hg.grown⟩
  · have := Maps.size_del (k := .int .i64 x) (hm.tidy (Maps.int_keyed Tryz.underlying3))
    rw [(hD x).1, hs] at this
    split
    · rename_i h1
      rw [if_pos h1] at this
      omega
    · rename_i h1
      rw [if_neg h1] at this
      omega
  · by_cases hy : y = x
    · subst hy
      simp only [if_pos]
      exact ⟨Maps.has_del_same, fun p' e => by cases e⟩
    · simp only [if_neg hy]
      refine ⟨by rw [Maps.has_del_other (kl3_ne hy)]; exact (hD y).1, fun p' e => ?_⟩
      rw [Maps.atKey_del_other (kl3_ne hy)]
      exact (hD y).2 p' e

/-- The tails' map has turned. -/
theorem LogX.tStep {w w' : World} {ρ : Nat → Nat} {B N N' lb : Nat} {G : Gh} {L : Lg} (h : LogX w ρ B N lb G L) (hg : w.grownBy w' (some G.tm)) {tls' : Int → Option (ByteArray × Nat)} {tn' : Nat} (ht : TlsAt w' G.tm N' tls' tn') :
    LogX w' ρ B N' lb G { L with tls := tls', tn := tn' } ∧ LStp w w' ρ ρ ∧ Same w w' ρ (fun c => c = 3) := by
  have htc : Tch (fun k => k = G.tm) w w' := ⟨hg.os, hg.tape, hg.output, hg.size, fun k hk q => hg.block k hk (fun e => q (by injection e))⟩
  have hnn : ¬ isN w G.tm := fun ⟨C, fr, q⟩ => by
    obtain ⟨D, n, ⟨es, c, hb, _⟩, _⟩ := h.t.map
    rw [hb] at q
    cases q
  have hS : ∀ k, k = G.tm → ρ k = 6 ∧ ¬ isN w k := fun k e => by rw [e]; exact ⟨h.t.rl, hnn⟩
  have hs := h.others htc hS
  have xb := h.b.same (hs _ (by omega) (by omega))
  have xj := h.j.same (hs _ (by omega) (by omega))
  have xv := h.v.same (hs _ (by omega) (by omega))
  have xk := h.k.same (hs _ (by omega) (by omega))
  refine ⟨⟨⟨xb.blk, xb.rl⟩, ⟨xj.j, xj.rl⟩, ⟨xv.row, xv.len, xv.seg, xv.rr, xv.rs⟩, ⟨xk.row, xk.len, xk.one, xk.lst, xk.ok, xk.few, xk.ge, xk.rw, xk.rb, xk.rl⟩, ⟨ht, h.t.rl, h.t.ge⟩, fun k q => ⟨Nat.lt_of_lt_of_le (h.lt k q).1 hg.size, (h.lt k q).2⟩⟩, ⟨htc.mono (fun k _ q => ⟨by rw [(hS k q).1]; omega, (hS k q).2⟩), fun _ _ q => q⟩, hs _ (by omega) (by omega)⟩
end Go.Proofs.YtkncboinfcnklabGreatDoor

namespace Go.Proofs.YtkncboinfcnklabGreatDoor
open Go.RowKit Go.Deep Go.Shelf Go.Proofs.YtkncboinfcnklabGreatDoor.Mth

/-! ### tasks, counted -/
theorem sum_set (f : Wk → Nat) : ∀ (ks : List Wk) (q : Nat) (k' : Wk), q < ks.length → ((ks.set q k').map f).sum + f (ks.getD q wk0) = (ks.map f).sum + f k'
  | [], q, k', h => absurd h (by simp)
  | k :: ks, 0, k', _ => by simp [List.getD]; omega
  | k :: ks, q + 1, k', h => by
    have ih := sum_set f ks q k' (by simpa using h)
    simp [List.getD] at ih ⊢
    omega
theorem sum_pos (f : Wk → Nat) : ∀ {ks : List Wk}, 0 < (ks.map f).sum → ∃ k ∈ ks, 0 < f k
  | [], h => absurd h (by simp)
  | k :: ks, h => by
    by_cases h0 : 0 < f k
    · exact ⟨k, by simp, h0⟩
    · obtain ⟨k', h1, h2⟩ := sum_pos f (ks := ks) (by simp at h; omega)
      exact ⟨k', by simp [h1], h2⟩
theorem le_sum (f : Wk → Nat) : ∀ {ks : List Wk} {k : Wk}, k ∈ ks → f k ≤ (ks.map f).sum
  | k0 :: ks, k, h => by
    rcases List.mem_cons.1 h with e | e
    · subst e; simp
    · have := le_sum f e; simp; omega
theorem getD_mem' {ks : List Wk} {q : Nat} (h : q < ks.length) : ks.getD q wk0 ∈ ks := by
  rw [← List.getElem_eq_getD (h := h)]
  exact List.getElem_mem h
/-- How often a worker has the task of a level. -/
def tc (i : Nat) (k : Wk) : Nat := k.list.count i + (if k.runs = some i then 1 else 0)
def ct (ks : List Wk) (i : Nat) : Nat := (ks.map (tc i)).sum
theorem tkIn_iff (k : Wk) (i : Nat) : tkIn k i = true ↔ 0 < tc i k := by
  unfold tkIn tc
  by_cases h : k.runs = some i
  · simp [h]
  · simp [h, List.count_pos_iff]
theorem hasT_iff (ks : List Wk) (i : Nat) : hasT ks i = true ↔ 0 < ct ks i := by
  unfold hasT ct
  rw [List.any_eq_true]
  constructor
  · rintro ⟨k, h1, h2⟩
    exact Nat.lt_of_lt_of_le ((tkIn_iff k i).1 h2) (le_sum (tc i) h1)
  · intro h
    obtain ⟨k, h1, h2⟩ := sum_pos (tc i) h
    exact ⟨k, h1, (tkIn_iff k i).2 h2⟩
theorem hasT_no (ks : List Wk) (i : Nat) : hasT ks i = false ↔ ct ks i = 0 := by
  have := hasT_iff ks i
  cases h : hasT ks i
  · rw [h] at this; simp at this ⊢; omega
  · rw [h] at this; simp at this ⊢; omega
/-- What a worker still has to do. -/
def pot (fan : Nat) (k : Wk) : Nat := (fan + 1) * k.list.length + (if k.runs.isSome then fan - k.read else 0)
def pots (fan : Nat) (ks : List Wk) : Nat := (ks.map (pot fan)).sum
theorem layOne_ct (fan : Nat) (n : Nat → Nat) (ks : List Wk) (i j : Nat) (h0 : 0 < ks.length) : ct (layOne fan n ks i) j = ct ks j + (if j = i ∧ fan ≤ n i ∧ ct ks i = 0 then 1 else 0) := by
  unfold layOne
  by_cases h : fan ≤ n i ∧ hasT ks i = false
  · rw [if_pos h]
    have hq : i % ks.length < ks.length := Nat.mod_lt _ h0
    have := sum_set (tc j) ks (i % ks.length) ⟨(ks.getD (i % ks.length) wk0).list ++ [i], (ks.getD (i % ks.length) wk0).runs, (ks.getD (i % ks.length) wk0).read⟩ hq
    have h2 := (hasT_no ks i).1 h.2
    unfold ct at h2 ⊢
    generalize ((ks.set (i % ks.length) ⟨(ks.getD (i % ks.length) wk0).list ++ [i], (ks.getD (i % ks.length) wk0).runs, (ks.getD (i % ks.length) wk0).read⟩).map (tc j)).sum = s at *
    simp only [tc, List.count_append, List.count_singleton] at this
    by_cases hj : j = i
    · subst hj
      rw [if_pos ⟨rfl, h.1, h2⟩]
      simp at this
      omega
    · rw [if_neg (fun q => hj q.1)]
      have : (i == j) = false := by simp; omega
      simp [this] at *
      omega
  · rw [if_neg h, if_neg]
    · rfl
    · rintro ⟨_, h1, h2⟩
      exact h ⟨h1, (hasT_no ks i).2 h2⟩
theorem layTo_ct (fan : Nat) (n : Nat → Nat) (ks : List Wk) (h0 : 0 < ks.length) : ∀ k j, ct (layTo fan n ks k) j = ct ks j + (if j < k ∧ fan ≤ n j ∧ ct ks j = 0 then 1 else 0)
  | 0, j => by simp [layTo]
  | k + 1, j => by
    rw [layTo, layOne_ct fan n _ k j (by rw [layTo_len]; exact h0), layTo_ct fan n ks h0 k j, layTo_ct fan n ks h0 k k]
    rw [if_neg (show ¬ (k < k ∧ fan ≤ n k ∧ ct ks k = 0) from fun q => by omega), Nat.add_zero]
    by_cases hj : j = k
    · subst hj
      rw [if_neg (show ¬ (j < j ∧ fan ≤ n j ∧ ct ks j = 0) from fun q => by omega)]
      by_cases h : fan ≤ n j ∧ ct ks j = 0
      · rw [if_pos ⟨rfl, h⟩, if_pos ⟨by omega, h⟩]
      · rw [if_neg (fun q => h q.2), if_neg (fun q => h q.2)]
    · rw [if_neg (show ¬ (j = k ∧ fan ≤ n k ∧ ct ks k = 0) from fun q => hj q.1), Nat.add_zero]
      by_cases h : j < k ∧ fan ≤ n j ∧ ct ks j = 0
      · rw [if_pos h, if_pos ⟨by omega, h.2⟩]
      · rw [if_neg h, if_neg (fun q => h ⟨by omega, q.2⟩)]
/-- Levels that are due and have no task. -/
def dn (fan : Nat) (n : Nat → Nat) (ks : List Wk) : Nat → Nat
  | 0 => 0
  | k + 1 => dn fan n ks k + (if fan ≤ n k ∧ ct ks k = 0 then 1 else 0)
theorem layOne_pot (fan : Nat) (n : Nat → Nat) (ks : List Wk) (i : Nat) (h0 : 0 < ks.length) : pots fan (layOne fan n ks i) = pots fan ks + (if fan ≤ n i ∧ ct ks i = 0 then fan + 1 else 0) := by
  unfold layOne
  by_cases h : fan ≤ n i ∧ hasT ks i = false
  · rw [if_pos h, if_pos ⟨h.1, (hasT_no ks i).1 h.2⟩]
    have hq : i % ks.length < ks.length := Nat.mod_lt _ h0
    have := sum_set (pot fan) ks (i % ks.length) ⟨(ks.getD (i % ks.length) wk0).list ++ [i], (ks.getD (i % ks.length) wk0).runs, (ks.getD (i % ks.length) wk0).read⟩ hq
    unfold pots
    generalize ((ks.set (i % ks.length) ⟨(ks.getD (i % ks.length) wk0).list ++ [i], (ks.getD (i % ks.length) wk0).runs, (ks.getD (i % ks.length) wk0).read⟩).map (pot fan)).sum = s at *
    simp only [pot, List.length_append, List.length_singleton, Nat.mul_add, Nat.mul_one] at this
    omega
  · rw [if_neg h, if_neg]
    · rfl
    · rintro ⟨h1, h2⟩
      exact h ⟨h1, (hasT_no ks i).2 h2⟩
theorem layTo_pot (fan : Nat) (n : Nat → Nat) (ks : List Wk) (h0 : 0 < ks.length) : ∀ k, pots fan (layTo fan n ks k) = pots fan ks + (fan + 1) * dn fan n ks k
  | 0 => by simp [layTo, dn]
  | k + 1 => by
    rw [layTo, layOne_pot fan n _ k (by rw [layTo_len]; exact h0), layTo_pot fan n ks h0 k, layTo_ct fan n ks h0 k k, dn]
    rw [if_neg (show ¬ (k < k ∧ fan ≤ n k ∧ ct ks k = 0) from fun q => by omega)]
    simp only [Nat.add_zero]
    by_cases h : fan ≤ n k ∧ ct ks k = 0
    · rw [if_pos h, if_pos h, Nat.mul_add]; omega
    · rw [if_neg h, if_neg h]; simp only [Nat.add_zero]
/-- What is the same of each worker. -/
theorem layTo_runs (fan : Nat) (n : Nat → Nat) (ks : List Wk) (h0 : 0 < ks.length) : ∀ k q, ((layTo fan n ks k).getD q wk0).runs = (ks.getD q wk0).runs ∧ ((layTo fan n ks k).getD q wk0).read = (ks.getD q wk0).read
  | 0, q => ⟨rfl, rfl⟩
  | k + 1, q => by
    have ih := layTo_runs fan n ks h0 k
    rw [layTo]
    unfold layOne
    split
    · have hq : k % (layTo fan n ks k).length < (layTo fan n ks k).length := Nat.mod_lt _ (by rw [layTo_len]; exact h0)
      rw [getD_set hq]
      split
      · rename_i e
        subst e
        exact ih _
      · exact ih q
    · exact ih q
theorem count_erase : ∀ (l : List Nat) (i j : Nat), i < l.length → (l.eraseIdx i).count j + (if l.getD i 0 = j then 1 else 0) = l.count j
  | [], i, j, h => absurd h (by simp)
  | a :: l, 0, j, _ => by simp [List.getD, List.count_cons]
  | a :: l, i + 1, j, h => by
    have := count_erase l i j (by simpa using h)
    rw [List.eraseIdx_cons_succ, List.count_cons, List.count_cons, List.getD_cons_succ]
    omega
theorem pot_run (fan : Nat) (l : List Nat) (x r : Nat) : pot fan ⟨l, some x, r⟩ = (fan + 1) * l.length + (fan - r) := by simp [pot]
theorem pot_none {fan : Nat} {k : Wk} (h : k.runs = none) : pot fan k = (fan + 1) * k.list.length := by simp [pot, h]
theorem tc_run (j : Nat) (l : List Nat) (x r : Nat) : tc j ⟨l, some x, r⟩ = l.count j + (if x = j then 1 else 0) := by simp [tc]
theorem tc_none {j : Nat} {k : Wk} (h : k.runs = none) : tc j k = k.list.count j := by simp [tc, h]
/-- A worker takes a task of its own list. -/
theorem take_own_ct (ks : List Wk) (q i j : Nat) (hq : q < ks.length) (hi : i < (ks.getD q wk0).list.length) (hr : (ks.getD q wk0).runs = none) : ct ((era ks q i).set q ⟨((era ks q i).getD q wk0).list, some ((ks.getD q wk0).list.getD i 0), ((era ks q i).getD q wk0).read⟩) j = ct ks j := by
  unfold era
  rw [getD_set hq, if_pos rfl, List.set_set]
  have := sum_set (tc j) ks q ⟨(ks.getD q wk0).list.eraseIdx i, some ((ks.getD q wk0).list.getD i 0), (ks.getD q wk0).read⟩ hq
  have hc := count_erase (ks.getD q wk0).list i j hi
  rw [tc_run, tc_none hr] at this
  unfold ct
  simp only
  omega
theorem take_own_pot (fan : Nat) (ks : List Wk) (q i : Nat) (hq : q < ks.length) (hi : i < (ks.getD q wk0).list.length) (hr : (ks.getD q wk0).runs = none) (h0 : (ks.getD q wk0).read = 0) : pots fan ((era ks q i).set q ⟨((era ks q i).getD q wk0).list, some ((ks.getD q wk0).list.getD i 0), ((era ks q i).getD q wk0).read⟩) + 1 = pots fan ks := by
  unfold era
  rw [getD_set hq, if_pos rfl, List.set_set]
  have := sum_set (pot fan) ks q ⟨(ks.getD q wk0).list.eraseIdx i, some ((ks.getD q wk0).list.getD i 0), (ks.getD q wk0).read⟩ hq
  have hl : ((ks.getD q wk0).list.eraseIdx i).length + 1 = (ks.getD q wk0).list.length := by rw [List.length_eraseIdx, if_pos hi]; omega
  have e2 : pot fan ⟨(ks.getD q wk0).list.eraseIdx i, some ((ks.getD q wk0).list.getD i 0), (ks.getD q wk0).read⟩ = (fan + 1) * ((ks.getD q wk0).list.eraseIdx i).length + fan := by rw [pot_run, h0]; rfl
  have e3 : pot fan (ks.getD q wk0) = (fan + 1) * (ks.getD q wk0).list.length := pot_none hr
  rw [e2, e3, ← hl, Nat.mul_add] at this
  unfold pots
  simp only
  omega
/-- A worker takes a task of another's list. -/
theorem take_oth_ct (ks : List Wk) (q o i j : Nat) (hq : q < ks.length) (ho : o < ks.length) (hne : q ≠ o) (hi : i < (ks.getD o wk0).list.length) (hr : (ks.getD q wk0).runs = none) : ct ((era ks o i).set q ⟨((era ks o i).getD q wk0).list, some ((ks.getD o wk0).list.getD i 0), ((era ks o i).getD q wk0).read⟩) j = ct ks j := by
  have hl : (era ks o i).length = ks.length := era_len ks o i
  have hg : (era ks o i).getD q wk0 = ks.getD q wk0 := by unfold era; rw [getD_set ho, if_neg hne]
  have s1 := sum_set (tc j) (era ks o i) q ⟨((era ks o i).getD q wk0).list, some ((ks.getD o wk0).list.getD i 0), ((era ks o i).getD q wk0).read⟩ (by rw [hl]; exact hq)
  have s2 := sum_set (tc j) ks o ⟨(ks.getD o wk0).list.eraseIdx i, (ks.getD o wk0).runs, (ks.getD o wk0).read⟩ ho
  have hc := count_erase (ks.getD o wk0).list i j hi
  rw [hg] at s1 ⊢
  have e1 : tc j ⟨(ks.getD q wk0).list, some ((ks.getD o wk0).list.getD i 0), (ks.getD q wk0).read⟩ = (ks.getD q wk0).list.count j + (if (ks.getD o wk0).list.getD i 0 = j then 1 else 0) := tc_run _ _ _ _
  have e2 : tc j (ks.getD q wk0) = (ks.getD q wk0).list.count j := tc_none hr
  have e3 : tc j ⟨(ks.getD o wk0).list.eraseIdx i, (ks.getD o wk0).runs, (ks.getD o wk0).read⟩ = ((ks.getD o wk0).list.eraseIdx i).count j + (if (ks.getD o wk0).runs = some j then 1 else 0) := rfl
  have e4 : tc j (ks.getD o wk0) = (ks.getD o wk0).list.count j + (if (ks.getD o wk0).runs = some j then 1 else 0) := rfl
  rw [e1, e2] at s1
  rw [e3, e4] at s2
  have e5 : ((ks.set o ⟨(ks.getD o wk0).list.eraseIdx i, (ks.getD o wk0).runs, (ks.getD o wk0).read⟩).map (tc j)).sum = ((era ks o i).map (tc j)).sum := rfl
  unfold ct
  omega
theorem take_oth_pot (fan : Nat) (ks : List Wk) (q o i : Nat) (hq : q < ks.length) (ho : o < ks.length) (hne : q ≠ o) (hi : i < (ks.getD o wk0).list.length) (hr : (ks.getD q wk0).runs = none) (h0 : (ks.getD q wk0).read = 0) : pots fan ((era ks o i).set q ⟨((era ks o i).getD q wk0).list, some ((ks.getD o wk0).list.getD i 0), ((era ks o i).getD q wk0).read⟩) + 1 = pots fan ks := by
  have hl : (era ks o i).length = ks.length := era_len ks o i
  have hg : (era ks o i).getD q wk0 = ks.getD q wk0 := by unfold era; rw [getD_set ho, if_neg hne]
  have s1 := sum_set (pot fan) (era ks o i) q ⟨((era ks o i).getD q wk0).list, some ((ks.getD o wk0).list.getD i 0), ((era ks o i).getD q wk0).read⟩ (by rw [hl]; exact hq)
  have s2 := sum_set (pot fan) ks o ⟨(ks.getD o wk0).list.eraseIdx i, (ks.getD o wk0).runs, (ks.getD o wk0).read⟩ ho
  have hll : ((ks.getD o wk0).list.eraseIdx i).length + 1 = (ks.getD o wk0).list.length := by rw [List.length_eraseIdx, if_pos hi]; omega
  rw [hg] at s1 ⊢
  have e1 : pot fan ⟨(ks.getD q wk0).list, some ((ks.getD o wk0).list.getD i 0), (ks.getD q wk0).read⟩ = (fan + 1) * (ks.getD q wk0).list.length + fan := by rw [pot_run, h0]; rfl
  have e2 : pot fan (ks.getD q wk0) = (fan + 1) * (ks.getD q wk0).list.length := pot_none hr
  have e3 : pot fan ⟨(ks.getD o wk0).list.eraseIdx i, (ks.getD o wk0).runs, (ks.getD o wk0).read⟩ = (fan + 1) * ((ks.getD o wk0).list.eraseIdx i).length + (if (ks.getD o wk0).runs.isSome then fan - (ks.getD o wk0).read else 0) := rfl
  have e4 : pot fan (ks.getD o wk0) = (fan + 1) * (ks.getD o wk0).list.length + (if (ks.getD o wk0).runs.isSome then fan - (ks.getD o wk0).read else 0) := rfl
  rw [e1, e2] at s1
  rw [e3, e4, ← hll, Nat.mul_add] at s2
  have e5 : ((ks.set o ⟨(ks.getD o wk0).list.eraseIdx i, (ks.getD o wk0).runs, (ks.getD o wk0).read⟩).map (pot fan)).sum = ((era ks o i).map (pot fan)).sum := rfl
  unfold pots
  omega
end Go.Proofs.YtkncboinfcnklabGreatDoor
