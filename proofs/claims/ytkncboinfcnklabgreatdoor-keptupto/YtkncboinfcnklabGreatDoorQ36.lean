import Derived.Test.YtkncboinfcnklabGreatDoorQ32
import Derived.Test.YtkncboinfcnklabGreatDoorQ33
import Derived.Test.YtkncboinfcnklabGreatDoorQZ
import Derived.Test.YtkncboinfcnklabGreatDoorQ29
import Derived.Test.YtkncboinfcnklabGreatDoorQ31
namespace Go.Proofs.YtkncboinfcnklabGreatDoor.Kq
open Go.RowKit Go.Deep Go.Shelf Go.Proofs.YtkncboinfcnklabGreatDoor.Mth Go.Proofs.YtkncboinfcnklabGreatDoor.Kp

/-- The hand stops the log's disk. -/
theorem stop_sh {w : World} {ρ : Nat → Nat} {B N M lb sb : Nat} {hb : Xt} {G : Gh} {L : Lg} {all : List Ent} {tls : List Fo} {av tv : Value} (h : Sh w ρ B N M lb sb hb G L all tls av tv) (hB : B ≤ w.heap.size) (n : Int) (h0 : 0 ≤ n) (h1 : n ≤ 30) :
    Calls Tryz.prog 15 #[ptrV hb.h, .int .i64 n] w fun e w' => e = .returned (.tuple #[]) ∧ ShX w w' B N M lb sb hb L all tls ∧ ∃ ρ', LStp w w' ρ ρ' := by
  have hp := h.mem.x.hp
  rw [← h.dk.sb] at hp
  refine (apiStop_any h.log.x.j.j.st hp n).mono ?_
  rintro e w' ⟨rfl, hs⟩
  obtain ⟨ρ', r1, r2⟩ := h.log.jStep hB (h.log.x.j.j.disk hs)
  have hl := h.dk.left
  have hd : Dk hb { G with fv := G.fv, dt := G.dt, sf := G.sf, left := stopL G.left n } M L.clock all := by
    obtain ⟨rs, a, b, c, d, t, e, f⟩ := h.dk.rcd
    refine ⟨h.dk.sb, ?_, ⟨rs, a, b, c, d, t, e, ?_⟩, h.dk.tx, h.dk.tk, fun q => h.dk.idle (fun q0 => q ?_), h.dk.nil⟩
    · show -1 ≤ stopL G.left n ∧ stopL G.left n ≤ 30
      unfold stopL
      split
      · omega
      · split <;> omega
    · rcases f with f | ⟨f, g⟩
      · exact Or.inl f
      · refine Or.inr ⟨?_, g⟩
        show stopL G.left n = 0
        unfold stopL
        rw [if_pos f]
    · show stopL G.left n = 0
      unfold stopL
      rw [if_pos q0]
  exact ⟨rfl, ⟨⟨ρ', _, av, tv, r1, h.mem.keep r2, h.inv, hd, h.bud, h.tl⟩, below_lstp (Below.refl B w) r2 h.log.x.lt hB⟩, ρ', r2⟩

set_option maxRecDepth 100000 in
set_option maxHeartbeats 1000000 in
theorem mv_stop {w : World} {ρ : Nat → Nat} {B N M lb sb : Nat} {hb : Xt} {G : Gh} {L : Lg} {all : List Ent} {tls : List Fo} {av tv : Value} (h : Sh w ρ B N M lb sb hb G L all tls av tv) (hB : B ≤ w.heap.size) (k a b : Int) (s : ByteArray) (hk : I64 k) (hb' : I64 b) (hp : pkI k 11 = 9) :
    Calls Tryz.prog 10 #[ptrV sb, mvV k a b s] w fun e w' => e = .returned (.tuple #[]) ∧ Mvx w w' B (N + 1) (M + 1) sb := by
  have hb1 := below_allocG w (mvO k a b s)
  have hk1 := new_blk w #[.int .i64 k, .int .i64 a, .int .i64 b, .string s] 42
  have CK := hide (Kp.pick_any k 11 (w.alloc (mvO k a b s)) hk.1 hk.2 (by omega) (by omega))
  have hbd := pkI_bd b 30 (by omega)
  have CKb : Hid (∀ W, Calls Tryz.prog 7 #[.int .i64 b, .int .i64 30] W fun e w' => e = .returned (.int .i64 (pkI b 30)) ∧ w' = W) := fun W => Kp.pick_any b 30 W hb'.1 hb'.2 (by omega) (by omega)
  have hB1 := belowB hb1 hB
  have h1 := h.below hb1
  obtain ⟨w1, hw1⟩ : ∃ w1, w1 = w.alloc (mvO k a b s) := ⟨_, rfl⟩
  obtain ⟨nb, hnb⟩ : ∃ nb, nb = w.heap.size := ⟨_, rfl⟩
  rw [← hw1] at hk1 CK hb1 hB1 h1
  rw [← hnb] at hk1
  have hnlt : nb < w1.heap.size := (Array.getElem?_eq_some_iff.1 hk1).1
  have hrn : ρ nb = 0 := h.log.free (by omega)
  have hBw1 : B ≤ w1.heap.size := Nat.le_trans hB hB1.size
  have CS : Hid (∀ W, Below w1.heap.size w1 W → Calls Tryz.prog 15 #[ptrV hb.h, .int .i64 (pkI b 30)] W fun e w' => e = .returned (.tuple #[]) ∧ Mvx w w' B (N + 1) (M + 1) sb ∧ w'.cell? ⟨sb, 1, none⟩ = some (ptrV hb.h) ∧ w'.cell? ⟨nb, 2, none⟩ = some (.int .i64 b)) := by
    intro W hW
    refine (stop_sh (h1.below hW) (Nat.le_trans hBw1 hW.size) (pkI b 30) (by omega) (by omega)).mono ?_
    rintro e w' ⟨rfl, hx, ρ', hst⟩
    refine ⟨rfl, ⟨lb, hb, L, all, tls, N, by omega, (hx.pre (hB1.trans (belowB hW hBw1))).mono (by omega)⟩, ?_, ?_⟩
    · obtain ⟨⟨ρ2, G2, av2, tv2, hs2⟩, _⟩ := hx
      exact (hs2.cell (j := 1) rfl).1
    · have hkn : w'.heap[nb]? = _ := (hst.tch.block nb (Nat.lt_of_lt_of_le hnlt hW.size) (fun q => q.1 hrn)).trans ((hW.block nb hnlt).trans hk1)
      exact (cell_of (j := 2) hkn rfl).1
  obtain ⟨c0, _⟩ := cell_of (j := 0) (u := .int .i64 k) hk1 rfl
  obtain ⟨c2, _⟩ := cell_of (j := 2) (u := .int .i64 b) hk1 rfl
  obtain ⟨d1, _⟩ := h1.cell (j := 1) (u := ptrV hb.h) rfl
  have HW1 := hide hw1
  have HNB := hide hnb
  clear h h1 hb1 hk1 hB1 hw1 hnb
  generalize pkI b 30 = bb at *
  generalize pkI k 11 = kk at *
  subst hp
  go_enter Tryz.func10, Tryz.ntmps10
  go_upto_region 1 with fail
  rw [← HW1.out, ← HNB.out]
  go_upto_region 29 with (first
    | (go_at_call 7; refine CK.out.mono ?_; rintro e w' ⟨rfl, hw'⟩; rw [hw']; clear hw' w'))
  go_region_held3 (fun w' => w'.cell? ⟨sb, 1, none⟩ = some (ptrV hb.h) ∧ w'.cell? ⟨nb, 2, none⟩ = some (.int .i64 b)) (first | exact ⟨d1, c2⟩ | exact ⟨m0, m1⟩ | fail)
    (first
      | (go_at_call 7; refine (CKb.out _).mono ?_; rintro e w' ⟨rfl, rfl⟩)
      | (go_at_call 15; refine (CS.out _ (drewB w1)).mono ?_; rintro e w3 ⟨rfl, hx, m0, m1⟩; have HX := hide hx; clear hx))
  go_wp2_with fail
  go_end0
  exact ⟨rfl, HX.out⟩

set_option maxRecDepth 100000 in
set_option maxHeartbeats 1000000 in
theorem mv_crash {w : World} {ρ : Nat → Nat} {B N M lb sb : Nat} {hb : Xt} {G : Gh} {L : Lg} {all : List Ent} {tls : List Fo} {av tv : Value} (h : Sh w ρ B N M lb sb hb G L all tls av tv) (hB : B ≤ w.heap.size) (ht : TabB B w) (k a b : Int) (s : ByteArray) (hk : I64 k) (ha : I64 a) (hb' : I64 b) (hM : M ≤ 390000) (hp : pkI k 11 = 10) :
    Calls Tryz.prog 10 #[ptrV sb, mvV k a b s] w fun e w' => e = .returned (.tuple #[]) ∧ Mvx w w' B (N + 1) (M + 1) sb := by
  have hb1 := below_allocG w (mvO k a b s)
  have hk1 := new_blk w #[.int .i64 k, .int .i64 a, .int .i64 b, .string s] 42
  have CK := hide (Kp.pick_any k 11 (w.alloc (mvO k a b s)) hk.1 hk.2 (by omega) (by omega))
  have hbd := pkI_bd a 7 (by omega)
  have CKa : Hid (∀ W, Calls Tryz.prog 7 #[.int .i64 a, .int .i64 7] W fun e w' => e = .returned (.int .i64 (pkI a 7)) ∧ w' = W) := fun W => Kp.pick_any a 7 W ha.1 ha.2 (by omega) (by omega)
  have hB1 := belowB hb1 hB
  have h1 := h.below hb1
  obtain ⟨w1, hw1⟩ : ∃ w1, w1 = w.alloc (mvO k a b s) := ⟨_, rfl⟩
  obtain ⟨nb, hnb⟩ : ∃ nb, nb = w.heap.size := ⟨_, rfl⟩
  rw [← hw1] at hk1 CK hb1 hB1 h1
  rw [← hnb] at hk1
  have hBw1 : B ≤ w1.heap.size := Nat.le_trans hB hB1.size
  have CS : Hid (∀ W, Below w1.heap.size w1 W → Calls Tryz.prog 6 #[ptrV sb, .int .i64 b, .int .i64 (pkI a 7)] W fun e w' => e = .returned (.tuple #[]) ∧ Mvx w w' B (N + 1) (M + 1) sb) := by
    intro W hW
    have hcast : ((pkI a 7).toNat : Int) = pkI a 7 := by omega
    have := crashes_any (h1.below hW) (Nat.le_trans hBw1 hW.size) (ht.next (hB1.trans (belowB hW hBw1))) b hb'.1 hb'.2 (pkI a 7).toNat (by omega) hM
    rw [hcast] at this
    refine Calls.mono this ?_
    rintro e w' ⟨rfl, lb', hb2, L', all', hx⟩
    exact ⟨rfl, lb', hb2, L', all', [], 0, by omega, hx.pre (hB1.trans (belowB hW hBw1))⟩
  obtain ⟨c0, _⟩ := cell_of (j := 0) (u := .int .i64 k) hk1 rfl
  obtain ⟨c1, _⟩ := cell_of (j := 1) (u := .int .i64 a) hk1 rfl
  obtain ⟨c2, _⟩ := cell_of (j := 2) (u := .int .i64 b) hk1 rfl
  have HW1 := hide hw1
  have HNB := hide hnb
  clear h h1 hb1 hk1 hB1 hw1 hnb
  generalize pkI a 7 = aa at *
  generalize pkI k 11 = kk at *
  subst hp
  go_enter Tryz.func10, Tryz.ntmps10
  go_upto_region 1 with fail
  rw [← HW1.out, ← HNB.out]
  go_upto_region 31 with (first
    | (go_at_call 7; refine CK.out.mono ?_; rintro e w' ⟨rfl, hw'⟩; rw [hw']; clear hw' w'))
  go_region_with (first
    | (go_at_call 7; refine (CKa.out _).mono ?_; rintro e w' ⟨rfl, hw'⟩; rw [hw']; clear hw' w')
    | (go_at_call 6; refine (CS.out _ (drewB w1)).mono ?_; rintro e w3 ⟨rfl, hx⟩; have HX := hide hx; clear hx))
  all_goals (
    go_wp2_with fail
    go_end0
    exact ⟨rfl, HX.out⟩)
theorem moves_any {w : World} {ρ : Nat → Nat} {B N M lb sb : Nat} {hb : Xt} {G : Gh} {L : Lg} {all : List Ent} {tls : List Fo} {av tv : Value} (h : Sh w ρ B N M lb sb hb G L all tls av tv) (hB : B ≤ w.heap.size) (ht : TabB B w) (ht' : Tab10B B w) (k a b : Int) (s : ByteArray) (hk : I64 k) (ha : I64 a) (hb' : I64 b) (hs : s.size ≤ 1048576) (hM : M ≤ 390000) (hN : N ≤ 1099511627776) :
    Calls Tryz.prog 10 #[ptrV sb, mvV k a b s] w fun e w' => e = .returned (.tuple #[]) ∧ Mvx w w' B (N + 1) (M + 1) sb := by
  have hbd := pkI_bd k 11 (by omega)
  have up : ∀ {e : Ending} {w' : World}, (e = .returned (.tuple #[]) ∧ Mvd w w' B (N + 1) (M + 1) lb sb hb) → e = .returned (.tuple #[]) ∧ Mvx w w' B (N + 1) (M + 1) sb := fun q => ⟨q.1, lb, hb, q.2⟩
  by_cases h2 : pkI k 11 ≤ 2
  · exact mv_lays h hB ht k a b s hk hs (by omega) (by omega)
  by_cases h3 : pkI k 11 = 3
  · exact mv_passes h hB ht' k a b s hk hb' (by omega) h3
  by_cases h5 : pkI k 11 ≤ 5
  · exact Calls.mono (mv_step h hB ht k a b s hk ha (by omega) (by omega)) (fun _ _ q => up q)
  by_cases h6 : pkI k 11 = 6
  · by_cases h4 : L.tn < 4
    · refine (mv_sub h hB ht k a b s hk ha h6 h4 (by omega) hN).mono ?_
      rintro e w' ⟨rfl, hx⟩
      exact ⟨rfl, lb, hb, _, _, _, _, Nat.le_refl _, hx⟩
    · exact Calls.mono (mv_many h hB ht k a b s hk ha h6 (by omega)) (fun _ _ q => up q)
  by_cases h9 : pkI k 11 = 9
  · exact mv_stop h hB k a b s hk hb' h9
  by_cases h10 : pkI k 11 = 10
  · exact mv_crash h hB ht k a b s hk ha hb' hM h10
  by_cases h0 : tls.length = 0
  · exact Calls.mono (mv_poll0 h hB k a b s hk (by omega) h0) (fun _ _ q => up q)
  by_cases h7 : pkI k 11 = 7
  · exact Calls.mono (mv_poll h hB k a b s hk ha h7 (by omega) (by omega) hN) (fun _ _ q => up q)
  exact Calls.mono (mv_unsub h hB k a b s hk ha (by omega) (by omega) (by omega)) (fun _ _ q => up q)
end Go.Proofs.YtkncboinfcnklabGreatDoor.Kq

namespace Go.Proofs.YtkncboinfcnklabGreatDoor.Kp
open Go.RowKit Go.Deep Go.Shelf Go.Proofs.YtkncboinfcnklabGreatDoor.Mth

abbrev sDA : ByteArray := ⟨#[100, 105, 115, 107, 32, 65]⟩
abbrev sTD : ByteArray := ⟨#[116, 104, 101, 32, 100, 105, 115, 107]⟩
abbrev sEl : ByteArray := ⟨#[101, 108, 115, 101]⟩
abbrev sDk : ByteArray := ⟨#[100, 105, 115, 107]⟩
theorem wd_DA : memD sDk (wd sDA) = true := memD_to ((wd_stands sDA sDk (by decide)).2 ⟨0, by decide, by decide, by decide, by decide, by decide⟩)
theorem wd_TD : memD sDk (wd sTD) = true := memD_to ((wd_stands sTD sDk (by decide)).2 ⟨4, by decide, by decide, by decide, by decide, by decide⟩)
theorem wd_El : memD sDk (wd sEl) = false := by
  cases h : memD sDk (wd sEl) with
  | false => rfl
  | true =>
    obtain ⟨i, _, hi, h2, _⟩ := (wd_stands sEl sDk (by decide)).1 (memD_from h)
    have e1 : (tb sDk).length = 4 := by decide
    have e2 : (tb sEl).length = 4 := by decide
    have : i = 0 := by omega
    subst this
    exact absurd (h2 0 (by omega)).2 (by decide)
abbrev lvL0 : Lg := Lg.new 1 2 0 1 1 3
abbrev lvL1 : Lg := lvL0.app sDA
abbrev lvL2 : Lg := Lg.sub lvL1 sDk
abbrev lvL3 : Lg := lvL2.app sTD
abbrev lvL4 : Lg := lvL3.app sEl
abbrev lvA : List Ent := [⟨0, 0, sDA⟩, ⟨1, 0, sTD⟩, ⟨2, 0, sEl⟩]
theorem lv_nxt : nxt lvA sDk 1 3 = 3 := by
  simp [nxt, plc, tld, hsW, wd_TD, wd_El]
theorem lv_q1 (L : Lg) (h1 : L.clock = 0) (h2 : L.keep = 1) : (tld (gq L sDk 0 5) lvA 0 (lvA.length + 1)).length = 2 := by
  have e1 : gq L sDk 0 5 ⟨0, 0, sDA⟩ = true := by simp [gq, yng, h1, h2, wd_DA]; omega
  have e2 : gq L sDk 0 5 ⟨1, 0, sTD⟩ = true := by simp [gq, yng, h1, h2, wd_TD]; omega
  have e3 : gq L sDk 0 5 ⟨2, 0, sEl⟩ = false := by simp [gq, wd_El]
  simp [tld, List.filter, e1, e2, e3]
theorem lv_q2 (L : Lg) (h1 : L.clock = 2) (h2 : L.keep = 1) : (tld (gq L sDk 0 5) lvA 0 (lvA.length + 1)).length = 0 := by
  have hy : yng L 0 = 1 := by unfold yng; rw [h1, h2]; decide
  have e : ∀ (a : Int) (s : ByteArray), gq L sDk 0 5 ⟨a, 0, s⟩ = false := fun a s => by unfold gq; rw [hy]; simp
  simp [tld, List.filter, e]
theorem query_sh {w : World} {ρ : Nat → Nat} {B N M lb sb hb : Nat} {G : Gh} {L : Lg} {all : List Ent} {tls : List Fo} {av tv : Value} (h : Sh w ρ B N M lb sb hb G L all tls av tv) (ht : TabB B w) (hM : M ≤ 400000) {x : ByteArray} (hx : x ∈ wds) (lo hi : Int) :
    Calls Tryz.prog 12 #[ptrV lb, .string x, .int .i64 lo, .int .i64 hi] w fun e w' => ∃ v, e = .returned (.tuple #[v, .int .i64 (qOpn x lo hi (segs L.lev) : Int), .int .i64 0]) ∧ CurE w w' v (tld (gq L x lo hi) all 0 (all.length + 1)) := by
  have hs := wds_wd hx
  have hbud := h.bud
  have hcf := h.inv.cfg
  have := query_yes h.log ht.now x (by unfold maxLen; omega) (wds_isWd hx) lo hi h.inv.clk hcf.2.2.2.1.2 (fun k hk => by have := h.inv.lev k hk; omega) (by have := h.inv.stoLen; omega) (fun es hes => h.inv.tmsOf (h.inv.segSub hes)) (h.inv.tmsOf h.inv.memSub)
  rwa [h.inv.query] at this
set_option maxRecDepth 100000 in
set_option maxHeartbeats 4000000 in
theorem lives_any (w : World) (B : Nat) (hB : B ≤ w.heap.size) (ht : TabB B w) (ht' : Tab10B B w) :
    Calls Tryz.prog 8 #[] w fun e w' => e = .returned (.bool true) ∧ Below B w w' := by
  have I0 : ∀ k : Int, 0 ≤ k → k ≤ 100 → I64 k := fun k h1 h2 => ⟨by omega, by omega⟩
  have CO := hide (opened_any w B hB ht 0 0 0 0 0 2 1 2 0 1 1 3 (I0 _ (by omega) (by omega)) (I0 _ (by omega) (by omega)) (I0 _ (by omega) (by omega)) (I0 _ (by omega) (by omega)) (I0 _ (by omega) (by omega)) (I0 _ (by omega) (by omega)) (by decide) (by decide) (by decide) (by decide) (by decide) (by decide))
  have p6 : pkI 6 11 = 6 := by decide
  have p3 : wds.getD (pkI 3 6).toNat ⟨#[]⟩ = sDk := by decide
  go_enter Tryz.func8, Tryz.ntmps8
  go_upto_region 2 with (first
    | (go_at_call 9; refine CO.out.mono ?_; rintro e w1 ⟨sb, lb, hb, rfl, hx1⟩; have HX1 := hide hx1; clear hx1))
  obtain ⟨⟨ρ1, G1, av1, tv1, h1⟩, b1⟩ := HX1.out
  have T1 := ht.next b1
  have T1' := ht'.next b1
  have C1 := hide (lays_ok h1 (Nat.le_trans hB b1.size) T1 sDA (by decide) (by decide) (by omega))
  obtain ⟨k6, _⟩ := h1.cell (j := 6) (u := .int .i64 1) rfl
  have HB1 := hide b1
  clear HX1 CO h1 b1
  go_upto_region 5 with (first
    | (go_at_call 19; refine C1.out.mono ?_; rintro e w2 ⟨rfl, hx2⟩; have HX2 := hide hx2; clear hx2))
  obtain ⟨⟨ρ2, G2, av2, tv2, h2⟩, b2⟩ := HX2.out
  have hb2 := HB1.out.trans b2
  have C2 := hide (mv_sub h2 (Nat.le_trans hB hb2.size) (ht.next hb2) 6 3 0 ⟨#[]⟩ (I0 _ (by omega) (by omega)) (I0 _ (by omega) (by omega)) p6 (by decide) (by omega) (by omega))
  rw [p3] at C2
  have HB2 := hide hb2
  clear HX2 HB1 C1 T1 T1' k6 h2 b2 hb2
  go_upto_region 6 with (first
    | (go_at_call 10; refine C2.out.mono ?_; rintro e w3 ⟨rfl, hx3⟩; have HX3 := hide hx3; clear hx3))
  obtain ⟨⟨ρ3, G3, av3, tv3, h3⟩, b3⟩ := HX3.out
  have hb3 := HB2.out.trans b3
  have C3 := hide (lays_ok h3 (Nat.le_trans hB hb3.size) (ht.next hb3) sTD (by decide) (by decide) (by omega))
  have HB3 := hide hb3
  clear HX3 HB2 C2 h3 b3 hb3
  go_upto_region 7 with (first
    | (go_at_call 19; refine C3.out.mono ?_; rintro e w4 ⟨rfl, hx4⟩; have HX4 := hide hx4; clear hx4))
  obtain ⟨⟨ρ4, G4, av4, tv4, h4⟩, b4⟩ := HX4.out
  have hb4 := HB3.out.trans b4
  have C4 := hide (lays_ok h4 (Nat.le_trans hB hb4.size) (ht.next hb4) sEl (by decide) (by decide) (by omega))
  have HB4 := hide hb4
  clear HX4 HB3 C3 h4 b4 hb4
  go_upto_region 8 with (first
    | (go_at_call 19; refine C4.out.mono ?_; rintro e w5 ⟨rfl, hx5⟩; have HX5 := hide hx5; clear hx5))
  obtain ⟨⟨ρ5, G5, av5, tv5, h5⟩, b5⟩ := HX5.out
  have hb5 := HB4.out.trans b5
  have h5' : Sh w5 ρ5 B 1 4 lb sb hb G5 lvL4 lvA [⟨0, sDk, 1, true⟩] av5 tv5 := h5
  obtain ⟨L, hL, hcl, hkp, hbt⟩ : ∃ L, L = lvL4 ∧ L.clock = 0 ∧ L.keep = 1 ∧ L.batch = 3 := ⟨_, rfl, rfl, rfl, rfl⟩
  rw [← hL] at h5'
  clear hL h5 HX5 C4 HB4 b5
  have hB5 := Nat.le_trans hB hb5.size
  have C5 := hide (polls_yes h5' hB5 (i := 0) (by simp) rfl (by omega) (by omega))
  have e5 : nxt lvA sDk 1 L.batch = 3 := by rw [hbt]; exact lv_nxt
  have C5' : Hid (Calls Tryz.prog 20 #[ptrV sb, .int .i64 0] w5 fun e w' => e = .returned (.tuple #[]) ∧ ShX w5 w' B 2 4 lb sb hb (Lg.poll L 0 sDk 3) lvA [⟨0, sDk, 3, true⟩]) := by
    have := C5.out
    simp only [List.getD_cons_zero, List.set_cons_zero] at this
    rw [e5] at this
    exact this
  obtain ⟨va, vc, hva, hvc, hvm⟩ := own_slice h5'.mem.row
  obtain ⟨ta, tc, hta, htc, htm⟩ := own_slice h5'.mem.trow
  subst hva
  subst hta
  obtain ⟨k13, _⟩ := h5'.cell (j := 13) (u := .bool true) rfl
  obtain ⟨k8, _⟩ := h5'.cell (j := 8) (u := .slice va 3 vc) rfl
  obtain ⟨k12, _⟩ := h5'.cell (j := 12) (u := .slice ta 1 tc) rfl
  have HB5 := hide hb5
  clear h5' C5 hb5
  go_upto_region 11 with (first
    | (go_at_call 20; refine C5'.out.mono ?_; rintro e w6 ⟨rfl, hx6⟩; have HX6 := hide hx6; clear hx6))
  obtain ⟨⟨ρ6, G6, av6, tv6, h6⟩, b6⟩ := HX6.out
  have hb6 := HB5.out.trans b6
  have hB6 := Nat.le_trans hB hb6.size
  have C6 := hide (query_sh h6 (ht.next hb6) (by omega) (x := sDk) (by simp [wds]) 0 5)
  have e6 : (tld (gq (Lg.poll L 0 sDk 3) sDk 0 5) lvA 0 (lvA.length + 1)).length = 2 := lv_q1 _ hcl hkp
  obtain ⟨k0, _⟩ := h6.cell (j := 0) (u := ptrV lb) rfl
  have P7 : Hid (∀ W, Below w6.heap.size w6 W → Calls Tryz.prog 21 #[ptrV sb, .int .i64 2] W fun e w' => e = .returned (.tuple #[]) ∧ ShX W w' B 2 5 lb sb hb { Lg.poll L 0 sDk 3 with clock := (Lg.poll L 0 sDk 3).clock + 2 } lvA [⟨0, sDk, 3, true⟩]) := fun W hW =>
    passes_ok (h6.below hW) (Nat.le_trans hB6 hW.size) (ht'.next (hb6.trans (belowB hW hB6))) 2 (by omega) (by omega) (by show canTick L.clock 2 = true; rw [hcl]; decide) (by omega)
  generalize tld (gq (Lg.poll L 0 sDk 3) sDk 0 5) lvA 0 (lvA.length + 1) = ql at *
  have HB6 := hide hb6
  clear HX6 HB5 C5' k13 k8 k12 h6 b6 hb6
  go_upto_region 12 with (first
    | (go_at_call 12; refine C6.out.mono ?_; rintro e w7 ⟨v7, rfl, hq7⟩; obtain ⟨hb7, hr7⟩ := hq7; obtain ⟨va7, vc7, hva7, _, _⟩ := own_slice hr7; subst hva7; rw [e6]; have HB7 := hide hb7; clear hb7 hr7))
  have C7 := hide (P7.out w7 HB7.out)
  have hb7 := HB6.out.trans (belowB HB7.out hB6)
  have HB7' := hide hb7
  clear hb7 C6 P7 k0
  go_upto_region 13 with (first
    | (go_at_call 21; refine C7.out.mono ?_; rintro e w8 ⟨rfl, hx8⟩; have HX8 := hide hx8; clear hx8))
  obtain ⟨⟨ρ8, G8, av8, tv8, h8⟩, b8⟩ := HX8.out
  have hb8 := HB7'.out.trans b8
  have hB8 := Nat.le_trans hB hb8.size
  have C8 := hide (query_sh h8 (ht.next hb8) (by omega) (x := sDk) (by simp [wds]) 0 5)
  have e8 : (tld (gq { Lg.poll L 0 sDk 3 with clock := (Lg.poll L 0 sDk 3).clock + 2 } sDk 0 5) lvA 0 (lvA.length + 1)).length = 0 := lv_q2 _ (by show L.clock + 2 = 2; omega) hkp
  obtain ⟨k0, _⟩ := h8.cell (j := 0) (u := ptrV lb) rfl
  have RD : Hid (∀ W, Below w8.heap.size w8 W → W.cell? ⟨sb, 13, none⟩ = some (.bool true) ∧ ∃ g c, W.cell? ⟨sb, 12, none⟩ = some (.slice (some ⟨g, 0, none⟩) 1 c) ∧ 1 ≤ c ∧ W.cell? ⟨g, 2, none⟩ = some (.int .i64 3)) := fun W hW => by
    have h9 := h8.below hW
    obtain ⟨g, c, rfl, hc, hm, _, _, q2, _⟩ := h9.fol (i := 0) (by simp)
    exact ⟨(h9.cell (j := 13) rfl).1, g, c, (h9.cell (j := 12) rfl).1, hc, q2⟩
  generalize tld (gq { Lg.poll L 0 sDk 3 with clock := (Lg.poll L 0 sDk 3).clock + 2 } sDk 0 5) lvA 0 (lvA.length + 1) = ql2 at *
  have HB8 := hide hb8
  clear HX8 HB7' C7 h8 b8 hb8
  go_upto_region 14 with (first
    | (go_at_call 12; refine C8.out.mono ?_; rintro e w9 ⟨v9, rfl, hq9⟩; obtain ⟨hb9, hr9⟩ := hq9; obtain ⟨va9, vc9, hva9, _, _⟩ := own_slice hr9; subst hva9; rw [e8]; have HB9 := hide hb9; clear hb9 hr9))
  obtain ⟨r13, g9, c9, r12, hc9, r2⟩ := RD.out w9 HB9.out
  have HBF := hide (HB8.out.trans (belowB HB9.out hB8))
  clear RD C8 k0
  go_wp2_with fail
  go_ret
  exact ⟨rfl, HBF.out⟩
end Go.Proofs.YtkncboinfcnklabGreatDoor.Kp

namespace Go.Proofs.YtkncboinfcnklabGreatDoor.Kp
open Go.RowKit Go.Deep Go.Shelf Go.Proofs.YtkncboinfcnklabGreatDoor.Mth

/-- A move. -/
structure Mv where
  k : Int
  a : Int
  b : Int
  s : ByteArray
def m0 : Mv := ⟨0, 0, 0, ⟨#[]⟩⟩
structure OkM (m : Mv) : Prop where
  k : I64 m.k
  a : I64 m.a
  b : I64 m.b
  s : m.s.size ≤ 1048576
/-- Moves that lie below B. -/
def RdV (B : Nat) (w : World) (v : Value) (l : List Mv) : Prop :=
  ∃ (a : Option Addr) (c : Nat), v = .slice a l.length c ∧ l.length ≤ c ∧ c ≤ maxLen ∧ (l = [] ∨ ∃ b o, a = some ⟨b, o, none⟩ ∧ b < B ∧ ∀ j, j < l.length → w.cell? ⟨b, o + j * 4, none⟩ = some (.int .i64 (l.getD j m0).k) ∧ w.cell? ⟨b, o + j * 4 + 1, none⟩ = some (.int .i64 (l.getD j m0).a) ∧ w.cell? ⟨b, o + j * 4 + 2, none⟩ = some (.int .i64 (l.getD j m0).b) ∧ w.cell? ⟨b, o + j * 4 + 3, none⟩ = some (.string (l.getD j m0).s))
theorem RdV.below {B : Nat} {w w' : World} {v : Value} {l : List Mv} (h : RdV B w v l) (hb : Below B w w') : RdV B w' v l := by
  obtain ⟨a, c, rfl, hc, hm, h⟩ := h
  refine ⟨a, c, rfl, hc, hm, ?_⟩
  rcases h with h | ⟨b, o, rfl, hB, h⟩
  · exact Or.inl h
  · refine Or.inr ⟨b, o, rfl, hB, fun j hj => ?_⟩
    obtain ⟨h0, h1, h2, h3⟩ := h j hj
    exact ⟨(hb.cell (p := ⟨b, o + j * 4, none⟩) hB).trans h0, (hb.cell (p := ⟨b, o + j * 4 + 1, none⟩) hB).trans h1, (hb.cell (p := ⟨b, o + j * 4 + 2, none⟩) hB).trans h2, (hb.cell (p := ⟨b, o + j * 4 + 3, none⟩) hB).trans h3⟩
theorem rdV_at {B : Nat} {w : World} {a : Option Addr} {n c : Nat} {l : List Mv} (h : RdV B w (.slice a n c) l) (j : Nat) (hj : j < l.length) : ∃ b o, a = some ⟨b, o, none⟩ ∧ w.cell? ⟨b, o + j * 4, none⟩ = some (.int .i64 (l.getD j m0).k) ∧ w.cell? ⟨b, o + j * 4 + 1, none⟩ = some (.int .i64 (l.getD j m0).a) ∧ w.cell? ⟨b, o + j * 4 + 2, none⟩ = some (.int .i64 (l.getD j m0).b) ∧ w.cell? ⟨b, o + j * 4 + 3, none⟩ = some (.string (l.getD j m0).s) := by
  obtain ⟨a', c', e, _, _, h⟩ := h
  injection e with e1 e2 e3
  rcases h with h | ⟨b, o, e4, _, h⟩
  · subst h; simp at hj
  · exact ⟨b, o, e1.trans e4, h j hj⟩
end Go.Proofs.YtkncboinfcnklabGreatDoor.Kp

namespace Go.Proofs.YtkncboinfcnklabGreatDoor.Kq
open Go.RowKit Go.Deep Go.Shelf Go.Proofs.YtkncboinfcnklabGreatDoor.Mth Go.Proofs.YtkncboinfcnklabGreatDoor.Kp

/-- A shelf behind at most n moves. -/
def Pld (w w' : World) (B n sb : Nat) : Prop := ∃ lb hb L all tls N M, N ≤ n ∧ M ≤ n ∧ ShX w w' B N M lb sb hb L all tls
theorem Mvx.pld {w w1 w2 : World} {B N M n sb : Nat} (h : Mvx w1 w2 B (N + 1) (M + 1) sb) (hb' : Below B w w1) (h1 : N ≤ n) (h2 : M ≤ n) : Pld w w2 B (n + 1) sb := by
  obtain ⟨lb, hb, L', all', tls', N', h3, hx⟩ := h
  exact ⟨lb, hb, L', all', tls', N', M + 1, by omega, by omega, hx.pre hb'⟩
theorem Pld.mono {w w' : World} {B n n' sb : Nat} (h : Pld w w' B n sb) (hn : n ≤ n') : Pld w w' B n' sb := by
  obtain ⟨lb, hb, L, all, tls, N, M, h1, h2, h3⟩ := h
  exact ⟨lb, hb, L, all, tls, N, M, by omega, by omega, h3⟩
theorem Pld.ok {w w' : World} {B n sb : Nat} (h : Pld w w' B n sb) : w'.cell? ⟨sb, 13, none⟩ = some (.bool true) := by
  obtain ⟨lb, hb, L, all, tls, N, M, h1, h2, ⟨ρ, G, av, tv, h3⟩, _⟩ := h
  exact (h3.cell (j := 13) rfl).1
theorem Pld.bel {w w' : World} {B n sb : Nat} (h : Pld w w' B n sb) : Below B w w' := by
  obtain ⟨lb, hb, L, all, tls, N, M, h1, h2, h3⟩ := h
  exact h3.bel

set_option maxRecDepth 100000 in
set_option maxHeartbeats 4000000 in
theorem played_any (w : World) (B : Nat) (hB : B ≤ w.heap.size) (ht : TabB B w) (ht' : Tab10B B w) (c0 c1 c2 c3 c4 c5 : Int) (h0 : I64 c0) (h1 : I64 c1) (h2 : I64 c2) (h3 : I64 c3) (h4 : I64 c4) (h5 : I64 c5) {v : Value} {l : List Mv} (hv : RdV B w v l) (hok : ∀ m ∈ l, OkM m) (hl : l.length ≤ 210000) :
    Calls Tryz.prog 4 #[caV c0 c1 c2 c3 c4 c5, v, .bool true] w fun e w' => ∃ sb, e = .returned (ptrV sb) ∧ Pld w w' B l.length sb := by
  have hb1 := below_allocG w (caO c0 c1 c2 c3 c4 c5)
  have hk1 := new_blk w #[.int .i64 c0, .int .i64 c1, .int .i64 c2, .int .i64 c3, .int .i64 c4, .int .i64 c5] 23
  obtain ⟨w1, hw1⟩ : ∃ w1, w1 = w.alloc (caO c0 c1 c2 c3 c4 c5) := ⟨_, rfl⟩
  rw [← hw1] at hb1 hk1
  obtain ⟨nb, hnb⟩ : ∃ nb, nb = w.heap.size := ⟨_, rfl⟩
  rw [← hnb] at hk1
  have hnlt : nb < w1.heap.size := (Array.getElem?_eq_some_iff.1 hk1).1
  have hB1 : B ≤ w1.heap.size := Nat.le_trans hB hb1.size
  have hBw1 := belowB hb1 hB
  have CL := hide (lives_any w1 w1.heap.size (Nat.le_refl _) (fun w' q => (ht.next hBw1) w' (q.mono hB1)) (fun w' q => (ht'.next hBw1) w' (q.mono hB1)))
  have CO : Hid (∀ W, Below B w W → Calls Tryz.prog 9 #[caV c0 c1 c2 c3 c4 c5] W fun e w' => ∃ sb, e = .returned (ptrV sb) ∧ Pld W w' B 0 sb) := by
    intro W hW
    have b0 := pkI_bd c0 8 (by omega)
    have b1 := pkI_bd c1 3 (by omega)
    have b2 := pkI_bd c2 5 (by omega)
    have b3 := pkI_bd c3 4 (by omega)
    have b4 := pkI_bd c4 1000000 (by omega)
    have b5 := pkI_bd c5 8 (by omega)
    refine (opened_any W B (Nat.le_trans hB hW.size) (ht.next hW) c0 c1 c2 c3 c4 c5 (1 + pkI c0 8).toNat (2 + pkI c1 3).toNat (pkI c2 5).toNat (1 + pkI c3 4).toNat (1 + pkI c4 1000000).toNat (1 + pkI c5 8).toNat h0 h1 h2 h3 h4 h5 (by omega) (by omega) (by omega) (by omega) (by omega) (by omega)).mono ?_
    rintro e w' ⟨sb, lb, hb, rfl, hx⟩
    exact ⟨sb, rfl, lb, hb, _, _, _, 0, 0, Nat.le_refl _, Nat.le_refl _, hx⟩
  have CM : Hid (∀ W n sb (m : Mv), Pld w W B n sb → n ≤ 210000 → OkM m → Calls Tryz.prog 10 #[ptrV sb, mvV m.k m.a m.b m.s] W fun e w' => e = .returned (.tuple #[]) ∧ Pld w w' B (n + 1) sb) := by
    intro W n sb m hp hn hm
    have hbel := hp.bel
    obtain ⟨lb, hb, L, all, tls, N, M, a1, a2, ⟨ρ, G, av, tv, a3⟩, _⟩ := hp
    refine (moves_any a3 (Nat.le_trans hB hbel.size) (ht.next hbel) (ht'.next hbel) m.k m.a m.b m.s hm.k hm.a hm.b hm.s (by omega) (by omega)).mono ?_
    rintro e w' ⟨rfl, hx⟩
    exact ⟨rfl, hx.pld hbel a1 a2⟩
  have CP : Hid (∀ W (k : Int), I64 k → Calls Tryz.prog 7 #[.int .i64 k, .int .i64 11] W fun e w' => e = .returned (.int .i64 (pkI k 11)) ∧ w' = W) := fun W k hk => Kp.pick_any k 11 W hk.1 hk.2 (by omega) (by omega)
  obtain ⟨a, c, rfl, hc, hm, _⟩ := id hv
  have HV := hide hv
  have HOK := hide hok
  have HW1 := hide hw1
  have HB1 := hide hb1
  have HK1 := hide hk1
  have HNB := hide hnb
  have HBW1 := hide hBw1
  unfold maxLen at hm
  clear hb1 hk1 hw1 ht ht' hv hok h0 h1 h2 h3 h4 h5 hBw1
  go_enter Tryz.func4, Tryz.ntmps4
  go_upto_region 1 with fail
  rw [← HW1.out, ← HNB.out]
  clear hnb
  go_upto_region 2 with (first
    | (go_at_call 8; refine CL.out.mono ?_; rintro e w2 ⟨rfl, hb2⟩; have HB2 := hide hb2; clear hb2))
  have hk2 := (HB2.out.block nb hnlt).trans HK1.out
  obtain ⟨a0, _⟩ := cell_of (j := 0) (u := .int .i64 c0) hk2 rfl
  obtain ⟨a1, _⟩ := cell_of (j := 1) (u := .int .i64 c1) hk2 rfl
  obtain ⟨a2, _⟩ := cell_of (j := 2) (u := .int .i64 c2) hk2 rfl
  obtain ⟨a3, _⟩ := cell_of (j := 3) (u := .int .i64 c3) hk2 rfl
  obtain ⟨a4, _⟩ := cell_of (j := 4) (u := .int .i64 c4) hk2 rfl
  obtain ⟨a5, _⟩ := cell_of (j := 5) (u := .int .i64 c5) hk2 rfl
  have hbw2 := HBW1.out.trans (HB2.out.mono hB1)
  have CO2 := hide (CO.out w2 hbw2)
  have HBW2 := hide hbw2
  clear hk2 hbw2 CO CL
  go_upto_region 3 with (first
    | (go_at_call 9; refine CO2.out.mono ?_; rintro e w3 ⟨sb, rfl, hp3⟩; have HP3 := hide hp3; clear hp3))
  clear a0 a1 a2 a3 a4 a5
  have HP : Hid (Pld w w3 B 0 sb) := by
    obtain ⟨lb, hb, L, all, tls, N, M, b1, b2, b3⟩ := HP3.out
    exact ⟨lb, hb, L, all, tls, N, M, b1, b2, b3.pre HBW2.out⟩
  clear HP3 HBW2 HBW1 HB2 HB1 HW1 HK1 HNB CO2
  go_wp2_with fail
  go_loopw [9] (fun i wr => ∃ k : Nat, k ≤ l.length ∧ i = .int .i64 k ∧ Pld w wr B k sb) (fun i _ => l.length - (intOf i).toNat)
  case atStart => exact ⟨0, Nat.zero_le _, rfl, HP.out⟩
  case round =>
    obtain ⟨k, hk, rfl, hp⟩ := hrel
    by_cases hlt : k < l.length
    · obtain ⟨b, o, rfl, q0, q1, q2, q3⟩ := rdV_at (HV.out.below hp.bel) k hlt
      have hom : OkM (l.getD k m0) := HOK.out _ (by rw [← List.getElem_eq_getD (h := hlt)]; exact List.getElem_mem hlt)
      have CP' := hide (CP.out wr _ hom.k)
      have hbd := pkI_bd (l.getD k m0).k 11 (by omega)
      have CM' := hide (CM.out wr k sb _ hp (by omega) hom)
      have HP' := hide hp
      generalize l.getD k m0 = mm at *
      clear hp hom
      generalize pkI mm.k 11 = pk at *
      go_upto_region 10 with (first
        | (go_at_call 7; refine CP'.out.mono ?_; rintro e w' ⟨rfl, hw'⟩; rw [hw']; clear hw' w')
        | (go_at_call 10; refine CM'.out.mono ?_; rintro e w4 ⟨rfl, hp4⟩; have HP4 := hide hp4; clear hp4))
      have k13 := HP4.out.ok
      go_wp2_with fail
      go_roundw
      case rel => exact ⟨k + 1, by omega, by go_num, HP4.out⟩
      case measure => simp [intOf]; omega
    · obtain rfl : k = l.length := by omega
      have HF := hide hp
      clear hp
      go_wp2_with fail
      go_ret
      exact ⟨sb, rfl, HF.out⟩
end Go.Proofs.YtkncboinfcnklabGreatDoor.Kq

namespace Go.Proofs.YtkncboinfcnklabGreatDoor.Kq
open Go.RowKit Go.Deep Go.Shelf Go.Proofs.YtkncboinfcnklabGreatDoor.Mth Go.Proofs.YtkncboinfcnklabGreatDoor.Kp

set_option maxRecDepth 100000 in
set_option maxHeartbeats 4000000 in
theorem lawK_any (w : World) (ht : TabB w.heap.size w) (ht' : Tab10B w.heap.size w) (c0 c1 c2 c3 c4 c5 kp : Int) (h0 : I64 c0) (h1 : I64 c1) (h2 : I64 c2) (h3 : I64 c3) (h4 : I64 c4) (h5 : I64 c5) (hk : I64 kp) {v : Value} {l : List Mv} (hv : RdV w.heap.size w v l) (hok : ∀ m ∈ l, OkM m) (hl : l.length ≤ 210000) :
    Calls Tryz.prog 3 #[caV c0 c1 c2 c3 c4 c5, v, .int .i64 kp] w fun e w' => e = .returned (.bool true) ∧ Below w.heap.size w w' := by
  have hb1 := below_allocG w (caO c0 c1 c2 c3 c4 c5)
  have hk1 := new_blk w #[.int .i64 c0, .int .i64 c1, .int .i64 c2, .int .i64 c3, .int .i64 c4, .int .i64 c5] 23
  obtain ⟨w1, hw1⟩ : ∃ w1, w1 = w.alloc (caO c0 c1 c2 c3 c4 c5) := ⟨_, rfl⟩
  rw [← hw1] at hb1 hk1
  obtain ⟨nb, hnb⟩ : ∃ nb, nb = w.heap.size := ⟨_, rfl⟩
  rw [← hnb] at hk1
  have CP := hide (played_any w1 w.heap.size hb1.size (ht.next hb1) (ht'.next hb1) c0 c1 c2 c3 c4 c5 h0 h1 h2 h3 h4 h5 (hv.below hb1) hok hl)
  have CF : Hid (∀ W n sb lo hi, Pld w1 W w.heap.size n sb → n ≤ 210002 → Calls Tryz.prog 5 #[ptrV sb, .int .i64 lo, .int .i64 hi] W fun e w' => e = .returned (.bool true) ∧ Pld w1 w' w.heap.size n sb) := by
    intro W n sb lo hi hp hn
    have hbel := hp.bel
    have hB := Nat.le_trans hb1.size hbel.size
    obtain ⟨lb, hb, L, all, tls, N, M, a1, a2, ⟨ρ, G, av, tv, a3⟩, _⟩ := hp
    refine (found_any a3 hB (ht.next (hb1.trans hbel)) lo hi (by omega)).mono ?_
    rintro e w' ⟨rfl, hb'⟩
    exact ⟨rfl, lb, hb, L, all, tls, N, M, a1, a2, (a3.shx hB hb').pre hbel⟩
  have CC : Hid (∀ W n sb keep (st : Nat), Pld w1 W w.heap.size n sb → n ≤ 210002 → I64 keep → st ≤ 6 → Calls Tryz.prog 6 #[ptrV sb, .int .i64 keep, .int .i64 (st : Int)] W fun e w' => e = .returned (.tuple #[]) ∧ Pld w1 w' w.heap.size (n + 1) sb) := by
    intro W n sb keep st hp hn hk hs
    have hbel := hp.bel
    have hB := Nat.le_trans hb1.size hbel.size
    obtain ⟨lb, hb, L, all, tls, N, M, a1, a2, ⟨ρ, G, av, tv, a3⟩, _⟩ := hp
    refine (crashes_any a3 hB (ht.next (hb1.trans hbel)) keep hk.1 hk.2 st hs (by omega)).mono ?_
    rintro e w' ⟨rfl, lb', hb', L', all', hx⟩
    exact ⟨rfl, lb', hb', L', all', [], 0, M + 1, by omega, by omega, hx.pre hbel⟩
  have hpk := pkI_bd kp 5 (by omega)
  have CK : Hid (∀ W, Calls Tryz.prog 7 #[.int .i64 kp, .int .i64 5] W fun e w' => e = .returned (.int .i64 ((pkI kp 5).toNat : Int)) ∧ w' = W) := fun W => by
    have := Kp.pick_any kp 5 W hk.1 hk.2 (by omega) (by omega)
    rwa [show pkI kp 5 = ((pkI kp 5).toNat : Int) by omega] at this
  obtain ⟨a0, _⟩ := cell_of (j := 0) (u := .int .i64 c0) hk1 rfl
  obtain ⟨a1, _⟩ := cell_of (j := 1) (u := .int .i64 c1) hk1 rfl
  obtain ⟨a2, _⟩ := cell_of (j := 2) (u := .int .i64 c2) hk1 rfl
  obtain ⟨a3, _⟩ := cell_of (j := 3) (u := .int .i64 c3) hk1 rfl
  obtain ⟨a4, _⟩ := cell_of (j := 4) (u := .int .i64 c4) hk1 rfl
  obtain ⟨a5, _⟩ := cell_of (j := 5) (u := .int .i64 c5) hk1 rfl
  have HW1 := hide hw1
  have HB1 := hide hb1
  have HNB := hide hnb
  have HKK := hide hk
  clear hb1 hk1 hw1 ht ht' hv hok h0 h1 h2 h3 h4 h5 hk
  generalize hst : (pkI kp 5).toNat = st at *
  have hst6 : st ≤ 6 := by omega
  clear hst hpk
  go_enter Tryz.func3, Tryz.ntmps3
  go_upto_region 1 with fail
  rw [← HW1.out, ← HNB.out]
  clear hnb
  go_upto_region 4 with (first
    | (go_at_call 4; refine CP.out.mono ?_; rintro e w2 ⟨sb, rfl, hp2⟩; have HP2 := hide hp2; clear hp2))
  have CF1 := hide (CF.out w2 _ sb 0 1000000000000 HP2.out (by omega))
  go_upto_region 5 with (first
    | (go_at_call 5; refine CF1.out.mono ?_; rintro e w3 ⟨rfl, hp3⟩; have HP3 := hide hp3; clear hp3))
  have CC1 := hide (CC.out w3 _ sb kp st HP3.out (by omega) HKK.out hst6)
  go_upto_region 6 with (first
    | (go_at_call 7; refine (CK.out _).mono ?_; rintro e w' ⟨rfl, hw'⟩; rw [hw']; clear hw' w')
    | (go_at_call 6; refine CC1.out.mono ?_; rintro e w4 ⟨rfl, hp4⟩; have HP4 := hide hp4; clear hp4))
  have CF2 := hide (CF.out w4 _ sb 0 1000000000000 HP4.out (by omega))
  go_upto_region 7 with (first
    | (go_at_call 5; refine CF2.out.mono ?_; rintro e w5 ⟨rfl, hp5⟩; have HP5 := hide hp5; clear hp5))
  have CC2 := hide (CC.out w5 _ sb 0 0 HP5.out (by omega) ⟨by omega, by omega⟩ (by omega))
  rw [show ((0 : Nat) : Int) = 0 from rfl] at CC2
  go_upto_region 8 with (first
    | (go_at_call 6; refine CC2.out.mono ?_; rintro e w6 ⟨rfl, hp6⟩; have HP6 := hide hp6; clear hp6))
  have CF3 := hide (CF.out w6 _ sb 0 1000000000000 HP6.out (by omega))
  go_upto_region 9 with (first
    | (go_at_call 5; refine CF3.out.mono ?_; rintro e w7 ⟨rfl, hp7⟩; have HP7 := hide hp7; clear hp7))
  have k13 := HP7.out.ok
  go_wp2_with fail
  go_ret
  exact ⟨rfl, HB1.out.trans HP7.out.bel⟩
end Go.Proofs.YtkncboinfcnklabGreatDoor.Kq
