import Derived.Test.YtkncboinfcnklaaGreatDoorKL
namespace Go.Proofs.YtkncboinfcnklaaGreatDoor.Kp
open Go.RowKit Go.Deep Go.Shelf Go.Proofs.YtkncboinfcnklaaGreatDoor.Mth

set_option maxRecDepth 100000 in
set_option maxHeartbeats 2000000 in
theorem mv_many {w : World} {ρ : Nat → Nat} {B N M lb sb hb : Nat} {G : Gh} {L : Lg} {all : List Ent} {tls : List Fo} {av tv : Value} (h : Sh w ρ B N M lb sb hb G L all tls av tv) (hB : B ≤ w.heap.size) (ht : TabB B w) (k a b : Int) (s : ByteArray) (hk : I64 k) (ha : I64 a) (hp : pkI k 11 = 6) (htn : 4 ≤ L.tn) :
    Calls Tryz.prog 48 #[ptrV sb, mvV k a b s] w fun e w' => e = .returned (.tuple #[]) ∧ Mvd w w' B (N + 1) (M + 1) lb sb hb := by
  have hb1 := below_allocG w (mvO k a b s)
  have hk1 := new_blk w #[.int .i64 k, .int .i64 a, .int .i64 b, .string s] 118
  have CK := hide (pick_any k 11 (w.alloc (mvO k a b s)) hk.1 hk.2 (by omega) (by omega))
  have CKa : Hid (∀ W, Calls Tryz.prog 47 #[.int .i64 a, .int .i64 6] W fun e w' => e = .returned (.int .i64 (pkI a 6)) ∧ w' = W) := fun W => pick_any a 6 W ha.1 ha.2 (by omega) (by omega)
  have hbd := pkI_bd a 6 (by omega)
  have hB1 := belowB hb1 hB
  obtain ⟨q, hq⟩ : ∃ q : Nat, pkI a 6 = (q : Int) := ⟨(pkI a 6).toNat, by omega⟩
  rw [hq] at CKa hbd
  have hq6 : q < 6 := by omega
  have hx : wds.getD q ⟨#[]⟩ ∈ wds := by
    rw [← List.getElem_eq_getD (h := by simpa [wds] using hq6)]
    exact List.getElem_mem _
  have h1 := h.below hb1
  obtain ⟨w1, hw1⟩ : ∃ w1, w1 = w.alloc (mvO k a b s) := ⟨_, rfl⟩
  obtain ⟨nb, hnb⟩ : ∃ nb, nb = w.heap.size := ⟨_, rfl⟩
  rw [← hw1] at hk1 CK hb1 hB1 h1
  rw [← hnb] at hk1
  have hnlt : nb < w1.heap.size := (Array.getElem?_eq_some_iff.1 hk1).1
  have hxs := wds_wd hx
  have CS : Hid (∀ W, Below w1.heap.size w1 W → Calls Tryz.prog 86 #[ptrV lb, .string (wds.getD q ⟨#[]⟩)] W fun e w' => e = .returned (.tuple #[.int .i64 0, .int .i64 7]) ∧ Mvd w w' B (N + 1) (M + 1) lb sb hb) := by
    intro W hb'
    have hBW : Below B w W := hB1.trans (belowB hb' (Nat.le_trans hB hB1.size))
    have hfew := h.tl.few
    refine (sub_many (h1.below hb').log.x (ht.next hBW).now (wds.getD q ⟨#[]⟩) (by unfold maxLen; omega) (wds_isWd hx) htn (by omega)).mono ?_
    rintro e w' ⟨rfl, hb2⟩
    exact ⟨rfl, L, all, tls, N, by omega, ((h.shx hB (hb1.trans ((hb'.trans (hb2.mono hb'.size)).mono hb1.size))).mono (by omega))⟩
  have RD : Hid (∀ W, Below w1.heap.size w1 W → W.cell? ⟨sb, 0, none⟩ = some (ptrV lb)) := fun W hb' => ((h1.below hb').cell (j := 0) rfl).1
  obtain ⟨c0, _⟩ := cell_of (j := 0) (u := .int .i64 k) hk1 rfl
  obtain ⟨c1, _⟩ := cell_of (j := 1) (u := .int .i64 a) hk1 rfl
  have HW1 := hide hw1
  have HNB := hide hnb
  have hbw := below_allocG w1.drew (Obj.cells #[.string ⟨#[97]⟩, .string ⟨#[98]⟩, .string ⟨#[97, 98]⟩, .string ⟨#[100, 105, 115, 107]⟩, .string ⟨#[49]⟩, .string ⟨#[120, 57]⟩] 9)
  have hwa := word_at w1.drew q hq6
  have CW := hide (words_any w1.drew)
  have cA := ((hbw.cell (p := ⟨nb, 1, none⟩) hnlt).trans c1 : _)
  obtain ⟨w2, hw2⟩ : ∃ w2, w2 = w1.drew.alloc (Obj.cells #[.string ⟨#[97]⟩, .string ⟨#[98]⟩, .string ⟨#[97, 98]⟩, .string ⟨#[100, 105, 115, 107]⟩, .string ⟨#[49]⟩, .string ⟨#[120, 57]⟩] 9) := ⟨_, rfl⟩
  rw [← hw2] at hwa CW hbw cA
  have HB2 : Hid (Below w1.heap.size w1 w2) := below_drew1 hbw
  have d0 := RD.out w2 HB2.out
  have hwa : w2.cell? ⟨w1.heap.size, q, none⟩ = some (.string (wds.getD q ⟨#[]⟩)) := hwa
  clear h h1 hb1 hk1 hB1 hw1 hnb ht hbw hw2
  rw [hp] at CK
  clear hp
  generalize wds.getD q ⟨#[]⟩ = x at *
  clear hx
  go_enter Tryz.func48, Tryz.ntmps48
  go_upto_region 1 with fail
  rw [← HW1.out, ← HNB.out]
  go_upto_region 13 with (first
    | (go_at_call 47; refine CK.out.mono ?_; rintro e w' ⟨rfl, hw'⟩; rw [hw']; clear hw' w'))
  go_region_law (first
    | (rw [if_pos (by simp [Region.wanted])]; go_simp; go_at_call 47; refine (CKa.out _).mono ?_; rintro e w' ⟨rfl, hw'⟩; rw [hw']; clear hw' w')
    | (rw [if_pos (by simp [Region.wanted])]; go_simp; go_at_call 49; refine CW.out.mono ?_; rintro e w' ⟨rfl, hw'⟩; rw [hw']; clear hw' w'))
  all_goals (
    go_wp2_with (first
      | (go_at_call 86; refine (CS.out _ HB2.out).mono ?_; rintro e w3 ⟨rfl, hx⟩; have HX := hide hx; clear hx))
    go_end0
    exact ⟨rfl, HX.out⟩)
end Go.Proofs.YtkncboinfcnklaaGreatDoor.Kp
