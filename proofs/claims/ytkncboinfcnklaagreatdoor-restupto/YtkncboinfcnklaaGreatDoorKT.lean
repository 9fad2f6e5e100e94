import Derived.Test.YtkncboinfcnklaaGreatDoorKe
namespace Go.Proofs.YtkncboinfcnklaaGreatDoor.Kp
open Go.RowKit Go.Deep Go.Shelf Go.Proofs.YtkncboinfcnklaaGreatDoor.Mth

abbrev sDA : ByteArray := ⟨#[100, 105, 115, 107, 32, 65]⟩
abbrev sTD : ByteArray := ⟨#[116, 104, 101, 32, 100, 105, 115, 107]⟩
abbrev sEl : ByteArray := ⟨#[101, 108, 115, 101]⟩
abbrev sDk : ByteArray := ⟨#[100, 105, 115, 107]⟩
theorem wd_DA : memD sDk (wd sDA) = true := memD_to ((wd_stands sDA sDk (by decide)).2 ⟨0, by decide, by decide, by decide, by decide, by decide⟩)
theorem wd_TD : memD sDk (wd sTD) = true := memD_to ((wd_stands sTD sDk (by decide)).2 ⟨4, by decide, by decide, by decide, by decide, by decide⟩)
theorem wd_El : memD sDk (wd sEl) = false := by
  cases h : memD sDk (wd sEl) with
  | false => rfl
  | true =>
    obtain ⟨i, _, hi, h2, _⟩ := (wd_stands sEl sDk (by decide)).1 (memD_from h)
    have e1 : (tb sDk).length = 4 := by decide
    have e2 : (tb sEl).length = 4 := by decide
    have : i = 0 := by omega
    subst this
    exact absurd (h2 0 (by omega)).2 (by decide)
abbrev lvL0 : Lg := Lg.new 1 2 0 1 1 3
abbrev lvL1 : Lg := lvL0.app sDA
abbrev lvL2 : Lg := Lg.sub lvL1 sDk
abbrev lvL3 : Lg := lvL2.app sTD
abbrev lvL4 : Lg := lvL3.app sEl
abbrev lvA : List Ent := [⟨0, 0, sDA⟩, ⟨1, 0, sTD⟩, ⟨2, 0, sEl⟩]
theorem lv_nxt : nxt lvA sDk 1 3 = 3 := by
  simp [nxt, plc, tld, hsW, wd_TD, wd_El]
theorem lv_q1 (L : Lg) (h1 : L.clock = 0) (h2 : L.keep = 1) : (tld (gq L sDk 0 5) lvA 0 (lvA.length + 1)).length = 2 := by
  have e1 : gq L sDk 0 5 ⟨0, 0, sDA⟩ = true := by simp [gq, yng, h1, h2, wd_DA]; omega
  have e2 : gq L sDk 0 5 ⟨1, 0, sTD⟩ = true := by simp [gq, yng, h1, h2, wd_TD]; omega
  have e3 : gq L sDk 0 5 ⟨2, 0, sEl⟩ = false := by simp [gq, wd_El]
  simp [tld, List.filter, e1, e2, e3]
theorem lv_q2 (L : Lg) (h1 : L.clock = 2) (h2 : L.keep = 1) : (tld (gq L sDk 0 5) lvA 0 (lvA.length + 1)).length = 0 := by
  have hy : yng L 0 = 1 := by unfold yng; rw [h1, h2]; decide
  have e : ∀ (a : Int) (s : ByteArray), gq L sDk 0 5 ⟨a, 0, s⟩ = false := fun a s => by unfold gq; rw [hy]; simp
  simp [tld, List.filter, e]
theorem query_sh {w : World} {ρ : Nat → Nat} {B N M lb sb hb : Nat} {G : Gh} {L : Lg} {all : List Ent} {tls : List Fo} {av tv : Value} (h : Sh w ρ B N M lb sb hb G L all tls av tv) (ht : TabB B w) (hM : M ≤ 400000) {x : ByteArray} (hx : x ∈ wds) (lo hi : Int) :
    Calls Tryz.prog 50 #[ptrV lb, .string x, .int .i64 lo, .int .i64 hi] w fun e w' => ∃ v, e = .returned (.tuple #[v, .int .i64 (qOpn x lo hi (segs L.lev) : Int), .int .i64 0]) ∧ CurE w w' v (tld (gq L x lo hi) all 0 (all.length + 1)) := by
  have hs := wds_wd hx
  have hbud := h.bud
  have hcf := h.inv.cfg
  have := query_yes h.log ht.now x (by unfold maxLen; omega) (wds_isWd hx) lo hi h.inv.clk hcf.2.2.2.1.2 (fun k hk => by have := h.inv.lev k hk; omega) (by have := h.inv.stoLen; omega) (fun es hes => h.inv.tmsOf (h.inv.segSub hes)) (h.inv.tmsOf h.inv.memSub)
  rwa [h.inv.query] at this
set_option maxRecDepth 100000 in
set_option maxHeartbeats 4000000 in
theorem lives_any (w : World) (B : Nat) (hB : B ≤ w.heap.size) (ht : TabB B w) (ht' : Tab10B B w) :
    Calls Tryz.prog 45 #[] w fun e w' => e = .returned (.bool true) ∧ Below B w w' := by
  have I0 : ∀ k : Int, 0 ≤ k → k ≤ 100 → I64 k := fun k h1 h2 => ⟨by omega, by omega⟩
  have CO := hide (opened_any w B hB ht 0 0 0 0 0 2 1 2 0 1 1 3 (I0 _ (by omega) (by omega)) (I0 _ (by omega) (by omega)) (I0 _ (by omega) (by omega)) (I0 _ (by omega) (by omega)) (I0 _ (by omega) (by omega)) (I0 _ (by omega) (by omega)) (by decide) (by decide) (by decide) (by decide) (by decide) (by decide))
  have p6 : pkI 6 11 = 6 := by decide
  have p3 : wds.getD (pkI 3 6).toNat ⟨#[]⟩ = sDk := by decide
  go_enter Tryz.func45, Tryz.ntmps45
  go_upto_region 2 with (first
    | (go_at_call 46; refine CO.out.mono ?_; rintro e w1 ⟨sb, lb, hb, rfl, hx1⟩; have HX1 := hide hx1; clear hx1))
  obtain ⟨⟨ρ1, G1, av1, tv1, h1⟩, b1⟩ := HX1.out
  have T1 := ht.next b1
  have T1' := ht'.next b1
  have C1 := hide (lays_ok h1 (Nat.le_trans hB b1.size) T1 sDA (by decide) (by decide) (by omega))
  obtain ⟨k6, _⟩ := h1.cell (j := 6) (u := .int .i64 1) rfl
  have HB1 := hide b1
  clear HX1 CO h1 b1
  go_upto_region 5 with (first
    | (go_at_call 82; refine C1.out.mono ?_; rintro e w2 ⟨rfl, hx2⟩; have HX2 := hide hx2; clear hx2))
  obtain ⟨⟨ρ2, G2, av2, tv2, h2⟩, b2⟩ := HX2.out
  have hb2 := HB1.out.trans b2
  have C2 := hide (mv_sub h2 (Nat.le_trans hB hb2.size) (ht.next hb2) 6 3 0 ⟨#[]⟩ (I0 _ (by omega) (by omega)) (I0 _ (by omega) (by omega)) p6 (by decide) (by omega) (by omega))
  rw [p3] at C2
  have HB2 := hide hb2
  clear HX2 HB1 C1 T1 T1' k6 h2 b2 hb2
  go_upto_region 6 with (first
    | (go_at_call 48; refine C2.out.mono ?_; rintro e w3 ⟨rfl, hx3⟩; have HX3 := hide hx3; clear hx3))
  obtain ⟨⟨ρ3, G3, av3, tv3, h3⟩, b3⟩ := HX3.out
  have hb3 := HB2.out.trans b3
  have C3 := hide (lays_ok h3 (Nat.le_trans hB hb3.size) (ht.next hb3) sTD (by decide) (by decide) (by omega))
  have HB3 := hide hb3
  clear HX3 HB2 C2 h3 b3 hb3
  go_upto_region 7 with (first
    | (go_at_call 82; refine C3.out.mono ?_; rintro e w4 ⟨rfl, hx4⟩; have HX4 := hide hx4; clear hx4))
  obtain ⟨⟨ρ4, G4, av4, tv4, h4⟩, b4⟩ := HX4.out
  have hb4 := HB3.out.trans b4
  have C4 := hide (lays_ok h4 (Nat.le_trans hB hb4.size) (ht.next hb4) sEl (by decide) (by decide) (by omega))
  have HB4 := hide hb4
  clear HX4 HB3 C3 h4 b4 hb4
  go_upto_region 8 with (first
    | (go_at_call 82; refine C4.out.mono ?_; rintro e w5 ⟨rfl, hx5⟩; have HX5 := hide hx5; clear hx5))
  obtain ⟨⟨ρ5, G5, av5, tv5, h5⟩, b5⟩ := HX5.out
  have hb5 := HB4.out.trans b5
  have h5' : Sh w5 ρ5 B 1 4 lb sb hb G5 lvL4 lvA [⟨0, sDk, 1, true⟩] av5 tv5 := h5
  obtain ⟨L, hL, hcl, hkp, hbt⟩ : ∃ L, L = lvL4 ∧ L.clock = 0 ∧ L.keep = 1 ∧ L.batch = 3 := ⟨_, rfl, rfl, rfl, rfl⟩
  rw [← hL] at h5'
  clear hL h5 HX5 C4 HB4 b5
  have hB5 := Nat.le_trans hB hb5.size
  have C5 := hide (polls_yes h5' hB5 (i := 0) (by simp) rfl (by omega) (by omega))
  have e5 : nxt lvA sDk 1 L.batch = 3 := by rw [hbt]; exact lv_nxt
  have C5' : Hid (Calls Tryz.prog 22 #[ptrV sb, .int .i64 0] w5 fun e w' => e = .returned (.tuple #[]) ∧ ShX w5 w' B 2 4 lb sb hb (Lg.poll L 0 sDk 3) lvA [⟨0, sDk, 3, true⟩]) := by
    have := C5.out
    simp only [List.getD_cons_zero, List.set_cons_zero] at this
    rw [e5] at this
    exact this
  obtain ⟨va, vc, hva, hvc, hvm⟩ := own_slice h5'.mem.row
  obtain ⟨ta, tc, hta, htc, htm⟩ := own_slice h5'.mem.trow
  subst hva
  subst hta
  obtain ⟨k13, _⟩ := h5'.cell (j := 13) (u := .bool true) rfl
  obtain ⟨k8, _⟩ := h5'.cell (j := 8) (u := .slice va 3 vc) rfl
  obtain ⟨k12, _⟩ := h5'.cell (j := 12) (u := .slice ta 1 tc) rfl
  have HB5 := hide hb5
  clear h5' C5 hb5
  go_upto_region 11 with (first
    | (go_at_call 22; refine C5'.out.mono ?_; rintro e w6 ⟨rfl, hx6⟩; have HX6 := hide hx6; clear hx6))
  obtain ⟨⟨ρ6, G6, av6, tv6, h6⟩, b6⟩ := HX6.out
  have hb6 := HB5.out.trans b6
  have hB6 := Nat.le_trans hB hb6.size
  have C6 := hide (query_sh h6 (ht.next hb6) (by omega) (x := sDk) (by simp [wds]) 0 5)
  have e6 : (tld (gq (Lg.poll L 0 sDk 3) sDk 0 5) lvA 0 (lvA.length + 1)).length = 2 := lv_q1 _ hcl hkp
  obtain ⟨k0, _⟩ := h6.cell (j := 0) (u := ptrV lb) rfl
  have P7 : Hid (∀ W, Below w6.heap.size w6 W → Calls Tryz.prog 83 #[ptrV sb, .int .i64 2] W fun e w' => e = .returned (.tuple #[]) ∧ ShX W w' B 2 5 lb sb hb { Lg.poll L 0 sDk 3 with clock := (Lg.poll L 0 sDk 3).clock + 2 } lvA [⟨0, sDk, 3, true⟩]) := fun W hW =>
    passes_ok (h6.below hW) (Nat.le_trans hB6 hW.size) (ht'.next (hb6.trans (belowB hW hB6))) 2 (by omega) (by omega) (by show canTick L.clock 2 = true; rw [hcl]; decide) (by omega)
  generalize tld (gq (Lg.poll L 0 sDk 3) sDk 0 5) lvA 0 (lvA.length + 1) = ql at *
  have HB6 := hide hb6
  clear HX6 HB5 C5' k13 k8 k12 h6 b6 hb6
  go_upto_region 12 with (first
    | (go_at_call 50; refine C6.out.mono ?_; rintro e w7 ⟨v7, rfl, hq7⟩; obtain ⟨hb7, hr7⟩ := hq7; obtain ⟨va7, vc7, hva7, _, _⟩ := own_slice hr7; subst hva7; rw [e6]; have HB7 := hide hb7; clear hb7 hr7))
  have C7 := hide (P7.out w7 HB7.out)
  have hb7 := HB6.out.trans (belowB HB7.out hB6)
  have HB7' := hide hb7
  clear hb7 C6 P7 k0
  go_upto_region 13 with (first
    | (go_at_call 83; refine C7.out.mono ?_; rintro e w8 ⟨rfl, hx8⟩; have HX8 := hide hx8; clear hx8))
  obtain ⟨⟨ρ8, G8, av8, tv8, h8⟩, b8⟩ := HX8.out
  have hb8 := HB7'.out.trans b8
  have hB8 := Nat.le_trans hB hb8.size
  have C8 := hide (query_sh h8 (ht.next hb8) (by omega) (x := sDk) (by simp [wds]) 0 5)
  have e8 : (tld (gq { Lg.poll L 0 sDk 3 with clock := (Lg.poll L 0 sDk 3).clock + 2 } sDk 0 5) lvA 0 (lvA.length + 1)).length = 0 := lv_q2 _ (by show L.clock + 2 = 2; omega) hkp
  obtain ⟨k0, _⟩ := h8.cell (j := 0) (u := ptrV lb) rfl
  have RD : Hid (∀ W, Below w8.heap.size w8 W → W.cell? ⟨sb, 13, none⟩ = some (.bool true) ∧ ∃ g c, W.cell? ⟨sb, 12, none⟩ = some (.slice (some ⟨g, 0, none⟩) 1 c) ∧ 1 ≤ c ∧ W.cell? ⟨g, 2, none⟩ = some (.int .i64 3)) := fun W hW => by
    have h9 := h8.below hW
    obtain ⟨g, c, rfl, hc, hm, _, _, q2, _⟩ := h9.fol (i := 0) (by simp)
    exact ⟨(h9.cell (j := 13) rfl).1, g, c, (h9.cell (j := 12) rfl).1, hc, q2⟩
  generalize tld (gq { Lg.poll L 0 sDk 3 with clock := (Lg.poll L 0 sDk 3).clock + 2 } sDk 0 5) lvA 0 (lvA.length + 1) = ql2 at *
  have HB8 := hide hb8
  clear HX8 HB7' C7 h8 b8 hb8
  go_upto_region 14 with (first
    | (go_at_call 50; refine C8.out.mono ?_; rintro e w9 ⟨v9, rfl, hq9⟩; obtain ⟨hb9, hr9⟩ := hq9; obtain ⟨va9, vc9, hva9, _, _⟩ := own_slice hr9; subst hva9; rw [e8]; have HB9 := hide hb9; clear hb9 hr9))
  obtain ⟨r13, g9, c9, r12, hc9, r2⟩ := RD.out w9 HB9.out
  have HBF := hide (HB8.out.trans (belowB HB9.out hB8))
  clear RD C8 k0
  go_wp2_with fail
  go_ret
  exact ⟨rfl, HBF.out⟩
end Go.Proofs.YtkncboinfcnklaaGreatDoor.Kp
