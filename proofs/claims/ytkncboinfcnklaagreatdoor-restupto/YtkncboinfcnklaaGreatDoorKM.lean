import Derived.Test.YtkncboinfcnklaaGreatDoorKL
namespace Go.Proofs.YtkncboinfcnklaaGreatDoor.Kp
open Go.RowKit Go.Deep Go.Shelf Go.Proofs.YtkncboinfcnklaaGreatDoor.Mth

/-- What a step leaves as it was. -/
theorem StepR.same {L L' : Lg} {q : Nat} {r : Int} (hs : StepR L q r L') : L'.memory = L.memory ∧ L'.fan = L.fan ∧ L'.back = L.back ∧ L'.keep = L.keep ∧ L'.batch = L.batch ∧ L'.clock = L.clock ∧ L'.wks.length = L.wks.length ∧ L'.tls = L.tls ∧ L'.subs = L.subs ∧ L'.tn = L.tn := by
  unfold StepR at hs
  cases hr : (L.wks.getD q wk0).runs with
  | none =>
    rw [hr] at hs
    simp only at hs
    split at hs
    · obtain ⟨_, rfl⟩ := hs
      exact ⟨rfl, rfl, rfl, rfl, rfl, rfl, by simp [era_len], rfl, rfl, rfl⟩
    · split at hs
      · obtain ⟨_, rfl⟩ := hs
        exact ⟨rfl, rfl, rfl, rfl, rfl, rfl, rfl, rfl, rfl, rfl⟩
      · obtain ⟨_, rfl⟩ := hs
        exact ⟨rfl, rfl, rfl, rfl, rfl, rfl, by simp [era_len], rfl, rfl, rfl⟩
  | some i =>
    rw [hr] at hs
    simp only at hs
    split at hs
    · obtain ⟨_, rfl⟩ := hs
      exact ⟨rfl, rfl, rfl, rfl, rfl, rfl, by simp, rfl, rfl, rfl⟩
    · obtain ⟨_, m, _, rfl⟩ := hs
      obtain ⟨m1, m2, m3, m4, m5, m6, m7, m8, m9, m10, m11⟩ := mrg_mem { L with wks := L.wks.set q ⟨(L.wks.getD q wk0).list, none, 0⟩ } i m
      exact ⟨m3, m2, m4, m5, m6, m7, (by unfold Lg.ends; simp only [layTo_len, List.length_set]), m9, m11, m10⟩
theorem shC_same (lb hb : Nat) {L L' : Lg} (av tv : Value) (h : L'.memory = L.memory ∧ L'.fan = L.fan ∧ L'.back = L.back ∧ L'.keep = L.keep ∧ L'.batch = L.batch ∧ L'.clock = L.clock ∧ L'.wks.length = L.wks.length) : shC lb hb L' av tv = shC lb hb L av tv := by
  obtain ⟨h1, h2, h3, h4, h5, h6, h7⟩ := h
  unfold shC
  rw [h1, h2, h3, h4, h5, h6, h7]
/-- A worker's step, of a shelf's log. -/
theorem step_sh {w : World} {ρ : Nat → Nat} {B N M lb sb hb : Nat} {G : Gh} {L : Lg} {all : List Ent} {tls : List Fo} {av tv : Value} (h : Sh w ρ B N M lb sb hb G L all tls av tv) (hB : B ≤ w.heap.size) (ht : TabB B w) {q : Nat} (hq : q < L.wks.length) (hM : M ≤ 400000) :
    Calls Tryz.prog 23 #[ptrV lb, .int .i64 (q : Int)] w fun e w' => ∃ r L' ρ' G', e = .returned (.tuple #[.int .i64 r, .int .i64 0]) ∧ StepR L q r L' ∧ Sh w' ρ' B N M lb sb hb G' L' all tls av tv ∧ LStp w w' ρ ρ' := by
  have hcf := h.inv.cfg
  have hbd := h.bud
  refine (step_any h.log.x hB ht hq (fun i hr => ?_) (by omega) hcf.2.1.2 h.inv.clk hcf.2.2.2.1.2 (fun k hk => by have := h.inv.lev k hk; omega)).mono ?_
  · have hct : 0 < ct L.wks i := Nat.lt_of_lt_of_le (by unfold tc; rw [hr]; simp) (le_sum (tc i) (getD_mem' hq))
    obtain ⟨h1, h2⟩ := h.inv.big i hct
    have h3 := (h.inv.rd q hq).1 i hr
    exact ⟨h2, by omega, by have := h.inv.levFlat i L.fan (by omega); omega, h.inv.texts (by omega)⟩
  · rintro e w' ⟨r, L', rfl, hs, hX⟩
    obtain ⟨i1, i2, i3, i4, i5⟩ := h.inv.step hq hs
    obtain ⟨ρ', G', hl, hst, hgk⟩ := hX.log h.log.m i4
    obtain ⟨s1, s2, s3, s4, s5, s6, s7, s8, s9, s10⟩ := StepR.same hs
    have hm := h.mem.keep hst
    rw [← shC_same lb hb av tv ⟨s1, s2, s3, s4, s5, s6, s7⟩] at hm
    refine ⟨r, L', ρ', G', rfl, hs, ⟨hl, hm, i1, ?_, ?_, h.tl.mono (Nat.le_refl _) s8 s9 s10⟩, hst⟩
    · rw [hgk]; exact h.left
    · rw [hgk]; exact h.bud

set_option maxRecDepth 100000 in
set_option maxHeartbeats 1000000 in
theorem mv_step {w : World} {ρ : Nat → Nat} {B N M lb sb hb : Nat} {G : Gh} {L : Lg} {all : List Ent} {tls : List Fo} {av tv : Value} (h : Sh w ρ B N M lb sb hb G L all tls av tv) (hB : B ≤ w.heap.size) (ht : TabB B w) (k a b : Int) (s : ByteArray) (hk : I64 k) (ha : I64 a) (hM : M ≤ 400000) (hp : pkI k 11 = 4 ∨ pkI k 11 = 5) :
    Calls Tryz.prog 48 #[ptrV sb, mvV k a b s] w fun e w' => e = .returned (.tuple #[]) ∧ Mvd w w' B (N + 1) (M + 1) lb sb hb := by
  have hb1 := below_allocG w (mvO k a b s)
  have hk1 := new_blk w #[.int .i64 k, .int .i64 a, .int .i64 b, .string s] 118
  have CK := hide (pick_any k 11 (w.alloc (mvO k a b s)) hk.1 hk.2 (by omega) (by omega))
  have hfew := h.log.x.k.few
  have CKa : Hid (∀ W, Calls Tryz.prog 47 #[.int .i64 a, .int .i64 (L.wks.length : Int)] W fun e w' => e = .returned (.int .i64 (pkI a (L.wks.length : Int))) ∧ w' = W) := fun W => pick_any a (L.wks.length : Int) W ha.1 ha.2 (by omega) (by omega)
  have hbd := pkI_bd a (L.wks.length : Int) (by omega)
  have hB1 := belowB hb1 hB
  have hcast : ((pkI a (L.wks.length : Int)).toNat : Int) = pkI a (L.wks.length : Int) := by omega
  have h1 := h.below hb1
  obtain ⟨w1, hw1⟩ : ∃ w1, w1 = w.alloc (mvO k a b s) := ⟨_, rfl⟩
  obtain ⟨nb, hnb⟩ : ∃ nb, nb = w.heap.size := ⟨_, rfl⟩
  rw [← hw1] at hk1 CK hb1 hB1 h1
  rw [← hnb] at hk1
  have hnlt : nb < w1.heap.size := (Array.getElem?_eq_some_iff.1 hk1).1
  have hrn : ρ nb = 0 := h.log.free (by omega)
  have hBd : Below B w w1.drew := hB1.trans (belowB (drewB w1) (Nat.le_trans hB hB1.size))
  have CS0 := step_sh (h1.below (drewB w1)) (Nat.le_trans hB hBd.size) (ht.next hBd) (q := (pkI a (L.wks.length : Int)).toNat) (by omega) hM
  rw [hcast] at CS0
  have CS : Hid (Calls Tryz.prog 23 #[ptrV lb, .int .i64 (pkI a (L.wks.length : Int))] w1.drew fun e w' => ∃ r : Int, e = .returned (.tuple #[.int .i64 r, .int .i64 0]) ∧ 0 ≤ r ∧ r ≤ 2 ∧ w'.cell? ⟨sb, 0, none⟩ = some (ptrV lb) ∧ w'.cell? ⟨sb, 5, none⟩ = some (.int .i64 (L.wks.length : Int)) ∧ w'.cell? ⟨nb, 1, none⟩ = some (.int .i64 a) ∧ w'.cell? ⟨sb, 13, none⟩ = some (.bool true) ∧ w'.frozen? ⟨sb, 13, none⟩ = false ∧ Mvd w (w'.setCell ⟨sb, 13, none⟩ (.bool true)) B (N + 1) (M + 1) lb sb hb) := by
    refine Calls.mono CS0 ?_
    rintro e w' ⟨r, L', ρ', G', rfl, hs, hSh, hst⟩
    obtain ⟨i1, i2, i3, i4, i5⟩ := h.inv.step (by omega) hs
    have hw7 := (StepR.same hs).2.2.2.2.2.2.1
    have hBw' : Below B w w' := hB1.trans (below_lstp (Below.refl B w1) (LStp.pre (drewB w1) hst) h1.log.x.lt (Nat.le_trans hB hB1.size))
    have hkn : w'.heap[nb]? = _ := (hst.tch.block nb hnlt (fun q => q.1 hrn)).trans hk1
    have c5 := (hSh.cell (j := 5) (u := .int .i64 (L'.wks.length : Int)) rfl).1
    rw [hw7] at c5
    exact ⟨r, rfl, i2, i3, (hSh.cell (j := 0) rfl).1, c5, (cell_of (j := 1) hkn rfl).1, (hSh.cell (j := 13) rfl).1, (hSh.cell (j := 13) (u := .bool true) rfl).2, L', all, tls, N, by omega, (((hSh.fine (Nat.le_trans hB hBw'.size)).pre hBw').mono (by omega))⟩
  obtain ⟨c0, _⟩ := cell_of (j := 0) (u := .int .i64 k) hk1 rfl
  obtain ⟨c1, _⟩ := cell_of (j := 1) (u := .int .i64 a) hk1 rfl
  obtain ⟨d0, _⟩ := h1.cell (j := 0) (u := ptrV lb) rfl
  obtain ⟨d5, _⟩ := h1.cell (j := 5) (u := .int .i64 (L.wks.length : Int)) rfl
  have HW1 := hide hw1
  have HNB := hide hnb
  clear h h1 hb1 hk1 hB1 CS0 hw1 hnb hcast hBd ht
  generalize pkI a (L.wks.length : Int) = aa at *
  generalize L.wks.length = nw at *
  generalize pkI k 11 = kk at *
  rcases hp with rfl | rfl
  all_goals (
    go_enter Tryz.func48, Tryz.ntmps48
    go_upto_region 1 with fail
    rw [← HW1.out, ← HNB.out]
    go_upto_region 10 with (first
      | (go_at_call 47; refine CK.out.mono ?_; rintro e w' ⟨rfl, hw'⟩; rw [hw']; clear hw' w'))
    go_region_held3 (fun w' => w'.cell? ⟨sb, 0, none⟩ = some (ptrV lb) ∧ w'.cell? ⟨sb, 5, none⟩ = some (.int .i64 (nw : Int)) ∧ w'.cell? ⟨nb, 1, none⟩ = some (.int .i64 a)) (first | exact ⟨d0, d5, c1⟩ | exact ⟨m0, m5, m1⟩ | fail)
      (first
        | (go_at_call 47; refine (CKa.out _).mono ?_; rintro e w' ⟨rfl, rfl⟩)
        | (go_at_call 23; refine CS.out.mono ?_; rintro e w3 ⟨r, rfl, r0, r2, m0, m5, m1, d13, f13, hx⟩; have HX := hide hx; clear hx))
    go_wp2_with fail
    go_end0
    exact ⟨rfl, HX.out⟩)
end Go.Proofs.YtkncboinfcnklaaGreatDoor.Kp
