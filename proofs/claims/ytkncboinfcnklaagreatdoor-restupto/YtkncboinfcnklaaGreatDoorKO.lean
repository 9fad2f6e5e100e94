import Derived.Test.YtkncboinfcnklaaGreatDoorKL
namespace Go.Proofs.YtkncboinfcnklaaGreatDoor.Kp
open Go.RowKit Go.Deep Go.Shelf Go.Proofs.YtkncboinfcnklaaGreatDoor.Mth

set_option maxRecDepth 100000 in
set_option maxHeartbeats 1000000 in
/-- Polls of a shelf on which nobody follows: nothing. -/
theorem mv_poll0 {w : World} {ρ : Nat → Nat} {B N M lb sb hb : Nat} {G : Gh} {L : Lg} {all : List Ent} {tls : List Fo} {av tv : Value} (h : Sh w ρ B N M lb sb hb G L all tls av tv) (hB : B ≤ w.heap.size) (k a b : Int) (s : ByteArray) (hk : I64 k) (hp : pkI k 11 = 7 ∨ pkI k 11 = 8) (h0 : tls.length = 0) :
    Calls Tryz.prog 48 #[ptrV sb, mvV k a b s] w fun e w' => e = .returned (.tuple #[]) ∧ Mvd w w' B (N + 1) (M + 1) lb sb hb := by
  have hb1 := below_allocG w (mvO k a b s)
  have hk1 := new_blk w #[.int .i64 k, .int .i64 a, .int .i64 b, .string s] 118
  have CK := hide (pick_any k 11 (w.alloc (mvO k a b s)) hk.1 hk.2 (by omega) (by omega))
  have HF : Hid (Mvd w (w.alloc (mvO k a b s)) B (N + 1) (M + 1) lb sb hb) := ⟨L, all, tls, N, by omega, (h.shx hB hb1).mono (by omega)⟩
  have h1 := h.below hb1
  obtain ⟨va, vc, hva, hvc, hvm⟩ := own_slice h1.mem.trow
  subst hva
  obtain ⟨d12, _⟩ := h1.cell (j := 12) (u := .slice va tls.length vc) rfl
  rw [h0] at d12
  obtain ⟨w1, hw1⟩ : ∃ w1, w1 = w.alloc (mvO k a b s) := ⟨_, rfl⟩
  obtain ⟨nb, hnb⟩ : ∃ nb, nb = w.heap.size := ⟨_, rfl⟩
  rw [← hw1] at hk1 CK HF d12
  rw [← hnb] at hk1
  obtain ⟨c0, _⟩ := cell_of (j := 0) (u := .int .i64 k) hk1 rfl
  have HW1 := hide hw1
  have HNB := hide hnb
  clear h h1 hb1 hk1 hw1 hnb h0
  generalize pkI k 11 = kk at *
  rcases hp with rfl | rfl
  all_goals (
    go_enter Tryz.func48, Tryz.ntmps48
    go_upto_region 1 with fail
    rw [← HW1.out, ← HNB.out]
    go_wp2_with (first
      | (go_at_call 47; refine CK.out.mono ?_; rintro e w' ⟨rfl, hw'⟩; rw [hw']; clear hw' w'))
    go_end0
    exact ⟨rfl, HF.out⟩)

theorem polls_any {w : World} {ρ : Nat → Nat} {B N M lb sb hb : Nat} {G : Gh} {L : Lg} {all : List Ent} {tls : List Fo} {av tv : Value} (h : Sh w ρ B N M lb sb hb G L all tls av tv) (hB : B ≤ w.heap.size) {i : Nat} (hi : i < tls.length) (hM : M ≤ 400000) (hN : N ≤ 1099511627776) :
    Calls Tryz.prog 22 #[ptrV sb, .int .i64 (i : Int)] w fun e w' => e = .returned (.tuple #[]) ∧ Mvd w w' B (N + 1) (M + 1) lb sb hb := by
  cases hth : (tls.getD i fo0).there with
  | false =>
    refine (polls_no h hB hi hth hM).mono ?_
    rintro e w' ⟨rfl, hx⟩
    exact ⟨rfl, L, all, tls, N, by omega, hx.mono (by omega)⟩
  | true =>
    refine (polls_yes h hB hi hth hM hN).mono ?_
    rintro e w' ⟨rfl, hx⟩
    exact ⟨rfl, _, all, _, N + 1, by omega, hx.mono (by omega)⟩

set_option maxRecDepth 100000 in
set_option maxHeartbeats 1000000 in
theorem mv_poll {w : World} {ρ : Nat → Nat} {B N M lb sb hb : Nat} {G : Gh} {L : Lg} {all : List Ent} {tls : List Fo} {av tv : Value} (h : Sh w ρ B N M lb sb hb G L all tls av tv) (hB : B ≤ w.heap.size) (k a b : Int) (s : ByteArray) (hk : I64 k) (ha : I64 a) (hp : pkI k 11 = 7) (h0 : 0 < tls.length) (hM : M ≤ 400000) (hN : N ≤ 1099511627776) :
    Calls Tryz.prog 48 #[ptrV sb, mvV k a b s] w fun e w' => e = .returned (.tuple #[]) ∧ Mvd w w' B (N + 1) (M + 1) lb sb hb := by
  have hb1 := below_allocG w (mvO k a b s)
  have hk1 := new_blk w #[.int .i64 k, .int .i64 a, .int .i64 b, .string s] 118
  have CK := hide (pick_any k 11 (w.alloc (mvO k a b s)) hk.1 hk.2 (by omega) (by omega))
  have hbud := h.bud
  have CKa : Hid (∀ W, Calls Tryz.prog 47 #[.int .i64 a, .int .i64 (tls.length : Int)] W fun e w' => e = .returned (.int .i64 (pkI a (tls.length : Int))) ∧ w' = W) := fun W => pick_any a (tls.length : Int) W ha.1 ha.2 (by omega) (by omega)
  have hbd := pkI_bd a (tls.length : Int) (by omega)
  have hB1 := belowB hb1 hB
  have hcast : ((pkI a (tls.length : Int)).toNat : Int) = pkI a (tls.length : Int) := by omega
  have h1 := h.below hb1
  obtain ⟨va, vc, hva, hvc, hvm⟩ := own_slice h.mem.trow
  subst hva
  obtain ⟨w1, hw1⟩ : ∃ w1, w1 = w.alloc (mvO k a b s) := ⟨_, rfl⟩
  obtain ⟨nb, hnb⟩ : ∃ nb, nb = w.heap.size := ⟨_, rfl⟩
  rw [← hw1] at hk1 CK hb1 hB1 h1
  rw [← hnb] at hk1
  have hBd : Below B w w1.drew := hB1.trans (belowB (drewB w1) (Nat.le_trans hB hB1.size))
  have CS0 := polls_any (h1.below (drewB w1)) (Nat.le_trans hB hBd.size) (i := (pkI a (tls.length : Int)).toNat) (by omega) hM hN
  rw [hcast] at CS0
  have CS : Hid (Calls Tryz.prog 22 #[ptrV sb, .int .i64 (pkI a (tls.length : Int))] w1.drew fun e w' => e = .returned (.tuple #[]) ∧ Mvd w w' B (N + 1) (M + 1) lb sb hb) := by
    refine Calls.mono CS0 ?_
    rintro e w' ⟨rfl, L', all', tls', N', hN', hx⟩
    exact ⟨rfl, L', all', tls', N', hN', hx.pre hBd⟩
  obtain ⟨c0, _⟩ := cell_of (j := 0) (u := .int .i64 k) hk1 rfl
  obtain ⟨c1, _⟩ := cell_of (j := 1) (u := .int .i64 a) hk1 rfl
  obtain ⟨d12, _⟩ := h1.cell (j := 12) (u := .slice va tls.length vc) rfl
  have h0I : (0 : Int) < (tls.length : Int) := by omega
  have HW1 := hide hw1
  have HNB := hide hnb
  unfold maxLen at hvm
  clear h h1 hb1 hk1 hB1 CS0 hw1 hnb hcast hBd
  rw [hp] at CK
  clear hp
  generalize pkI a (tls.length : Int) = aa at *
  generalize tls.length = nw at *
  go_enter Tryz.func48, Tryz.ntmps48
  go_upto_region 1 with fail
  rw [← HW1.out, ← HNB.out]
  go_upto_region 21 with (first
    | (go_at_call 47; refine CK.out.mono ?_; rintro e w' ⟨rfl, hw'⟩; rw [hw']; clear hw' w'))
  go_region_law (first
    | (rw [if_pos (by simp [Region.wanted])]; go_simp; go_at_call 47; refine (CKa.out _).mono ?_; rintro e w' ⟨rfl, rfl⟩)
    | (rw [if_pos (by simp [Region.wanted])]; go_simp; go_at_call 22; refine CS.out.mono ?_; rintro e w3 ⟨rfl, hx⟩; have HX := hide hx; clear hx))
  all_goals (
    go_wp2_with fail
    go_end0
    exact ⟨rfl, HX.out⟩)
end Go.Proofs.YtkncboinfcnklaaGreatDoor.Kp
