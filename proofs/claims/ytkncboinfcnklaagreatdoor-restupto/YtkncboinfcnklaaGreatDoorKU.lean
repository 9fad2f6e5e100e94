import Derived.Test.YtkncboinfcnklaaGreatDoorKT
namespace Go.Proofs.YtkncboinfcnklaaGreatDoor.Kp
open Go.RowKit Go.Deep Go.Shelf Go.Proofs.YtkncboinfcnklaaGreatDoor.Mth

/-- A move. -/
structure Mv where
  k : Int
  a : Int
  b : Int
  s : ByteArray
def m0 : Mv := ⟨0, 0, 0, ⟨#[]⟩⟩
structure OkM (m : Mv) : Prop where
  k : I64 m.k
  a : I64 m.a
  b : I64 m.b
  s : m.s.size ≤ 1048576
/-- Moves that lie below B. -/
def RdV (B : Nat) (w : World) (v : Value) (l : List Mv) : Prop :=
  ∃ (a : Option Addr) (c : Nat), v = .slice a l.length c ∧ l.length ≤ c ∧ c ≤ maxLen ∧ (l = [] ∨ ∃ b o, a = some ⟨b, o, none⟩ ∧ b < B ∧ ∀ j, j < l.length → w.cell? ⟨b, o + j * 4, none⟩ = some (.int .i64 (l.getD j m0).k) ∧ w.cell? ⟨b, o + j * 4 + 1, none⟩ = some (.int .i64 (l.getD j m0).a) ∧ w.cell? ⟨b, o + j * 4 + 2, none⟩ = some (.int .i64 (l.getD j m0).b) ∧ w.cell? ⟨b, o + j * 4 + 3, none⟩ = some (.string (l.getD j m0).s))
theorem RdV.below {B : Nat} {w w' : World} {v : Value} {l : List Mv} (h : RdV B w v l) (hb : Below B w w') : RdV B w' v l := by
  obtain ⟨a, c, rfl, hc, hm, h⟩ := h
  refine ⟨a, c, rfl, hc, hm, ?_⟩
  rcases h with h | ⟨b, o, rfl, hB, h⟩
  · exact Or.inl h
  · refine Or.inr ⟨b, o, rfl, hB, fun j hj => ?_⟩
    obtain ⟨h0, h1, h2, h3⟩ := h j hj
    exact ⟨(hb.cell (p := ⟨b, o + j * 4, none⟩) hB).trans h0, (hb.cell (p := ⟨b, o + j * 4 + 1, none⟩) hB).trans h1, (hb.cell (p := ⟨b, o + j * 4 + 2, none⟩) hB).trans h2, (hb.cell (p := ⟨b, o + j * 4 + 3, none⟩) hB).trans h3⟩
theorem rdV_at {B : Nat} {w : World} {a : Option Addr} {n c : Nat} {l : List Mv} (h : RdV B w (.slice a n c) l) (j : Nat) (hj : j < l.length) : ∃ b o, a = some ⟨b, o, none⟩ ∧ w.cell? ⟨b, o + j * 4, none⟩ = some (.int .i64 (l.getD j m0).k) ∧ w.cell? ⟨b, o + j * 4 + 1, none⟩ = some (.int .i64 (l.getD j m0).a) ∧ w.cell? ⟨b, o + j * 4 + 2, none⟩ = some (.int .i64 (l.getD j m0).b) ∧ w.cell? ⟨b, o + j * 4 + 3, none⟩ = some (.string (l.getD j m0).s) := by
  obtain ⟨a', c', e, _, _, h⟩ := h
  injection e with e1 e2 e3
  rcases h with h | ⟨b, o, e4, _, h⟩
  · subst h; simp at hj
  · exact ⟨b, o, e1.trans e4, h j hj⟩
/-- A shelf behind at most n moves. -/
def Pld (w w' : World) (B n sb : Nat) : Prop := ∃ lb hb L all tls N M, N ≤ n ∧ M ≤ n ∧ ShX w w' B N M lb sb hb L all tls
theorem Mvd.pld {w w1 w2 : World} {B N M n lb sb hb : Nat} (h : Mvd w1 w2 B (N + 1) (M + 1) lb sb hb) (hb' : Below B w w1) (h1 : N ≤ n) (h2 : M ≤ n) : Pld w w2 B (n + 1) sb := by
  obtain ⟨L', all', tls', N', h3, hx⟩ := h
  exact ⟨lb, hb, L', all', tls', N', M + 1, by omega, by omega, hx.pre hb'⟩
theorem Pld.mono {w w' : World} {B n n' sb : Nat} (h : Pld w w' B n sb) (hn : n ≤ n') : Pld w w' B n' sb := by
  obtain ⟨lb, hb, L, all, tls, N, M, h1, h2, h3⟩ := h
  exact ⟨lb, hb, L, all, tls, N, M, by omega, by omega, h3⟩
theorem Pld.ok {w w' : World} {B n sb : Nat} (h : Pld w w' B n sb) : w'.cell? ⟨sb, 13, none⟩ = some (.bool true) := by
  obtain ⟨lb, hb, L, all, tls, N, M, h1, h2, ⟨ρ, G, av, tv, h3⟩, _⟩ := h
  exact (h3.cell (j := 13) rfl).1
theorem Pld.bel {w w' : World} {B n sb : Nat} (h : Pld w w' B n sb) : Below B w w' := by
  obtain ⟨lb, hb, L, all, tls, N, M, h1, h2, h3⟩ := h
  exact h3.bel

set_option maxRecDepth 100000 in
set_option maxHeartbeats 4000000 in
theorem played_any (w : World) (B : Nat) (hB : B ≤ w.heap.size) (ht : TabB B w) (ht' : Tab10B B w) (c0 c1 c2 c3 c4 c5 : Int) (h0 : I64 c0) (h1 : I64 c1) (h2 : I64 c2) (h3 : I64 c3) (h4 : I64 c4) (h5 : I64 c5) {v : Value} {l : List Mv} (hv : RdV B w v l) (hok : ∀ m ∈ l, OkM m) (hl : l.length ≤ 210000) :
    Calls Tryz.prog 19 #[caV c0 c1 c2 c3 c4 c5, v, .bool false] w fun e w' => ∃ sb, e = .returned (ptrV sb) ∧ Pld w w' B l.length sb := by
  have hb1 := below_allocG w (caO c0 c1 c2 c3 c4 c5)
  have hk1 := new_blk w #[.int .i64 c0, .int .i64 c1, .int .i64 c2, .int .i64 c3, .int .i64 c4, .int .i64 c5] 49
  obtain ⟨w1, hw1⟩ : ∃ w1, w1 = w.alloc (caO c0 c1 c2 c3 c4 c5) := ⟨_, rfl⟩
  rw [← hw1] at hb1 hk1
  obtain ⟨nb, hnb⟩ : ∃ nb, nb = w.heap.size := ⟨_, rfl⟩
  rw [← hnb] at hk1
  have hnlt : nb < w1.heap.size := (Array.getElem?_eq_some_iff.1 hk1).1
  have hB1 : B ≤ w1.heap.size := Nat.le_trans hB hb1.size
  have hBw1 := belowB hb1 hB
  have CL := hide (lives_any w1 w1.heap.size (Nat.le_refl _) (fun w' q => (ht.next hBw1) w' (q.mono hB1)) (fun w' q => (ht'.next hBw1) w' (q.mono hB1)))
  have CO : Hid (∀ W, Below B w W → Calls Tryz.prog 46 #[caV c0 c1 c2 c3 c4 c5] W fun e w' => ∃ sb, e = .returned (ptrV sb) ∧ Pld W w' B 0 sb) := by
    intro W hW
    have b0 := pkI_bd c0 8 (by omega)
    have b1 := pkI_bd c1 3 (by omega)
    have b2 := pkI_bd c2 5 (by omega)
    have b3 := pkI_bd c3 4 (by omega)
    have b4 := pkI_bd c4 1000000 (by omega)
    have b5 := pkI_bd c5 8 (by omega)
    refine (opened_any W B (Nat.le_trans hB hW.size) (ht.next hW) c0 c1 c2 c3 c4 c5 (1 + pkI c0 8).toNat (2 + pkI c1 3).toNat (pkI c2 5).toNat (1 + pkI c3 4).toNat (1 + pkI c4 1000000).toNat (1 + pkI c5 8).toNat h0 h1 h2 h3 h4 h5 (by omega) (by omega) (by omega) (by omega) (by omega) (by omega)).mono ?_
    rintro e w' ⟨sb, lb, hb, rfl, hx⟩
    exact ⟨sb, rfl, lb, hb, _, _, _, 0, 0, Nat.le_refl _, Nat.le_refl _, hx⟩
  have CM : Hid (∀ W n sb (m : Mv), Pld w W B n sb → n ≤ 210000 → OkM m → pkI m.k 11 ≤ 8 → Calls Tryz.prog 48 #[ptrV sb, mvV m.k m.a m.b m.s] W fun e w' => e = .returned (.tuple #[]) ∧ Pld w w' B (n + 1) sb) := by
    intro W n sb m hp hn hm hk
    have hbel := hp.bel
    obtain ⟨lb, hb, L, all, tls, N, M, a1, a2, ⟨ρ, G, av, tv, a3⟩, _⟩ := hp
    refine (moves_any a3 (Nat.le_trans hB hbel.size) (ht.next hbel) (ht'.next hbel) m.k m.a m.b m.s hm.k hm.a hm.b hm.s (by omega) (by omega) hk).mono ?_
    rintro e w' ⟨rfl, hx⟩
    exact ⟨rfl, hx.pld hbel a1 a2⟩
  have CP : Hid (∀ W (k : Int), I64 k → Calls Tryz.prog 47 #[.int .i64 k, .int .i64 11] W fun e w' => e = .returned (.int .i64 (pkI k 11)) ∧ w' = W) := fun W k hk => pick_any k 11 W hk.1 hk.2 (by omega) (by omega)
  obtain ⟨a, c, rfl, hc, hm, _⟩ := id hv
  have HV := hide hv
  have HOK := hide hok
  have HW1 := hide hw1
  have HB1 := hide hb1
  have HK1 := hide hk1
  have HNB := hide hnb
  have HBW1 := hide hBw1
  unfold maxLen at hm
  clear hb1 hk1 hw1 ht ht' hv hok h0 h1 h2 h3 h4 h5 hBw1
  go_enter Tryz.func19, Tryz.ntmps19
  go_upto_region 1 with fail
  rw [← HW1.out, ← HNB.out]
  clear hnb
  go_upto_region 2 with (first
    | (go_at_call 45; refine CL.out.mono ?_; rintro e w2 ⟨rfl, hb2⟩; have HB2 := hide hb2; clear hb2))
  have hk2 := (HB2.out.block nb hnlt).trans HK1.out
  obtain ⟨a0, _⟩ := cell_of (j := 0) (u := .int .i64 c0) hk2 rfl
  obtain ⟨a1, _⟩ := cell_of (j := 1) (u := .int .i64 c1) hk2 rfl
  obtain ⟨a2, _⟩ := cell_of (j := 2) (u := .int .i64 c2) hk2 rfl
  obtain ⟨a3, _⟩ := cell_of (j := 3) (u := .int .i64 c3) hk2 rfl
  obtain ⟨a4, _⟩ := cell_of (j := 4) (u := .int .i64 c4) hk2 rfl
  obtain ⟨a5, _⟩ := cell_of (j := 5) (u := .int .i64 c5) hk2 rfl
  have hbw2 := HBW1.out.trans (HB2.out.mono hB1)
  have CO2 := hide (CO.out w2 hbw2)
  have HBW2 := hide hbw2
  clear hk2 hbw2 CO CL
  go_upto_region 3 with (first
    | (go_at_call 46; refine CO2.out.mono ?_; rintro e w3 ⟨sb, rfl, hp3⟩; have HP3 := hide hp3; clear hp3))
  clear a0 a1 a2 a3 a4 a5
  have HP : Hid (Pld w w3 B 0 sb) := by
    obtain ⟨lb, hb, L, all, tls, N, M, b1, b2, b3⟩ := HP3.out
    exact ⟨lb, hb, L, all, tls, N, M, b1, b2, b3.pre HBW2.out⟩
  clear HP3 HBW2 HBW1 HB2 HB1 HW1 HK1 HNB CO2
  go_wp2_with fail
  go_loopw [9] (fun i wr => ∃ k : Nat, k ≤ l.length ∧ i = .int .i64 k ∧ Pld w wr B k sb) (fun i _ => l.length - (intOf i).toNat)
  case atStart => exact ⟨0, Nat.zero_le _, rfl, HP.out⟩
  case round =>
    obtain ⟨k, hk, rfl, hp⟩ := hrel
    by_cases hlt : k < l.length
    · obtain ⟨b, o, rfl, q0, q1, q2, q3⟩ := rdV_at (HV.out.below hp.bel) k hlt
      have hom : OkM (l.getD k m0) := HOK.out _ (by rw [← List.getElem_eq_getD (h := hlt)]; exact List.getElem_mem hlt)
      have CP' := hide (CP.out wr _ hom.k)
      have hbd := pkI_bd (l.getD k m0).k 11 (by omega)
      by_cases h8 : pkI (l.getD k m0).k 11 ≤ 8
      · have CM' := hide (CM.out wr k sb _ hp (by omega) hom h8)
        have HP' := hide hp
        generalize l.getD k m0 = mm at *
        clear hp hom
        generalize pkI mm.k 11 = pk at *
        have e8 : (decide (8 < pk)) = false := by simp; omega
        go_upto_region 10 with (first
          | (go_at_call 47; refine CP'.out.mono ?_; rintro e w' ⟨rfl, hw'⟩; rw [hw']; clear hw' w')
          | (go_at_call 48; refine CM'.out.mono ?_; rintro e w4 ⟨rfl, hp4⟩; have HP4 := hide hp4; clear hp4))
        have k13 := HP4.out.ok
        go_wp2_with fail
        go_roundw
        case rel => exact ⟨k + 1, by omega, by go_num, HP4.out⟩
        case measure => simp [intOf]; omega
      · have HP' := hide (hp.mono (Nat.le_succ k))
        generalize l.getD k m0 = mm at *
        clear hp hom
        generalize pkI mm.k 11 = pk at *
        go_wp2_with (first
          | (go_at_call 47; refine CP'.out.mono ?_; rintro e w' ⟨rfl, hw'⟩; rw [hw']; clear hw' w'))
        go_roundw
        case rel => exact ⟨k + 1, by omega, by go_num, HP'.out⟩
        case measure => simp [intOf]; omega
    · obtain rfl : k = l.length := by omega
      have HF := hide hp
      clear hp
      go_wp2_with fail
      go_ret
      exact ⟨sb, rfl, HF.out⟩
end Go.Proofs.YtkncboinfcnklaaGreatDoor.Kp
