import Derived.Test.YtkncboinfcnklabGreatDoorQ34
import Derived.Test.YtkncboinfcnklabGreatDoorQ35
namespace Go.Proofs.YtkncboinfcnklabGreatDoor.Kq
open Go.RowKit Go.Deep Go.Shelf Go.Proofs.YtkncboinfcnklabGreatDoor.Mth Go.Proofs.YtkncboinfcnklabGreatDoor.Kp

theorem ShX.drew {w w1 : World} {B N M lb sb : Nat} {hb : Xt} {L : Lg} {all : List Ent} {tls : List Fo} (h : ShX w w1 B N M lb sb hb L all tls) (hB : B ≤ w.heap.size) : ShX w w1.drew B N M lb sb hb L all tls := by
  obtain ⟨⟨ρ, G, av, tv, hs⟩, hb'⟩ := h
  exact ⟨⟨ρ, G, av, tv, hs.below (drewB _)⟩, hb'.trans (belowB (drewB _) (Nat.le_trans hB hb'.size))⟩
theorem cfg_of {L : Lg} {all : List Ent} (h : Inv L all) (hf : L.wks.length ≤ 4) : cfgB L.memory L.fan L.back L.wks.length L.keep L.batch = true ∧ cfgB ((1 + L.memory % 8 : Nat) : Int) ((2 + (L.fan - 1) % 3 : Nat) : Int) L.back L.wks.length L.keep L.batch = true := by
  have hc := h.cfg
  unfold cfgB
  simp only [Bool.and_eq_true, decide_eq_true_eq]
  omega

set_option maxRecDepth 100000 in
set_option maxHeartbeats 8000000 in
theorem crashes_any {w : World} {ρ : Nat → Nat} {B N M lb sb : Nat} {hb : Xt} {G : Gh} {L : Lg} {all : List Ent} {tls : List Fo} {av tv : Value} (h : Sh w ρ B N M lb sb hb G L all tls av tv) (hB : B ≤ w.heap.size) (ht : TabB B w) (keep : Int) (k0 : -9223372036854775808 ≤ keep) (k1 : keep < 9223372036854775808) (stop : Nat) (hst : stop ≤ 6) (hM : M ≤ 390000) :
    Calls Tryz.prog 6 #[ptrV sb, .int .i64 keep, .int .i64 (stop : Int)] w fun e w' => e = .returned (.tuple #[]) ∧ ∃ lb' hb' L' all', ShX w w' B 0 (M + 1) lb' sb hb' L' all' [] := by
  have hfew := h.log.x.k.few.2
  obtain ⟨hc1, hc2⟩ := cfg_of h.inv hfew
  have hcf := h.inv.cfg
  have htk := h.dk.tk
  have CC := hide (crash_log h hB (by omega) keep k0 k1)
  have CS : Hid (∀ w1 d h', Cr1 w w1 B sb hb (shC lb hb L av tv) all tls av tv M L.clock d h' (-1) → Calls Tryz.prog 15 #[ptrV h', .int .i64 (stop : Int)] w1 fun e w' => e = .returned (.tuple #[]) ∧ Cr1 w w' B sb hb (shC lb hb L av tv) all tls av tv M L.clock d h' (stop : Int)) := fun w1 d h' x => stop_cr x hB stop
  have CD : Hid (∀ w1 d h', stop ≤ 4 → Cr1 w w1 B sb hb (shC lb hb L av tv) all tls av tv M L.clock d h' (stop : Int) → Calls Tryz.prog 16 #[.agg #[.int .i64 (L.memory : Int), .int .i64 (L.fan : Int), .int .i64 (L.back : Int), .int .i64 (L.wks.length : Int), .int .i64 (L.keep : Int), .int .i64 (L.batch : Int)], ptrV d] w1 fun e w' => e = .returned (.tuple #[.pointer none, .int .i64 3]) ∧ ∃ l', CrR w w' B sb hb (shC lb hb L av tv) all tls av tv M L.clock d h' l') := fun w1 d h' hl x => new_cr_down x hB hl (by omega) htk _ _ _ _ _ _ hc1
  have CU : Hid (∀ w1 d h', 5 ≤ stop → Cr1 w w1 B sb hb (shC lb hb L av tv) all tls av tv M L.clock d h' (stop : Int) → Calls Tryz.prog 16 #[.agg #[.int .i64 (L.memory : Int), .int .i64 (L.fan : Int), .int .i64 (L.back : Int), .int .i64 (L.wks.length : Int), .int .i64 (L.keep : Int), .int .i64 (L.batch : Int)], ptrV d] w1 fun e w' => (∃ lb', e = .returned (.tuple #[ptrV lb', .int .i64 0])) ∧ ∃ l', CrR w w' B sb hb (shC lb hb L av tv) all tls av tv M L.clock d h' l') := fun w1 d h' hl x => new_cr_up x hB ht ⟨hl, hst⟩ (by omega) htk _ _ _ _ _ _ hc1
  have C2 : Hid (∀ w1 d h' l', CrR w w1 B sb hb (shC lb hb L av tv) all tls av tv M L.clock d h' l' → Calls Tryz.prog 14 #[ptrV h', .int .i64 keep] w1 fun e w' => ∃ d'' h'', e = .returned (.tuple #[ptrV d'', ptrV h'']) ∧ CrR w w' B sb hb (shC lb hb L av tv) all tls av tv M L.clock d'' h'' (-1)) := fun w1 d h' l' x => crash_cr x hB keep k0 k1
  have KC : Hid (∀ W d h' l', CrR w W B sb hb (shC lb hb L av tv) all tls av tv M L.clock d h' l' → W.heap[sb]? = some (Obj.cells (shC lb hb L av tv) 37 (0, 0))) := fun W d h' l' x => x.mem.blk
  have K1 : Hid (∀ W d h' l', Cr1 w W B sb hb (shC lb hb L av tv) all tls av tv M L.clock d h' l' → W.heap[sb]? = some (Obj.cells (shC lb hb L av tv) 37 (0, 0))) := fun W d h' l' x => x.mem.blk
  obtain ⟨c1, _⟩ := h.cell (j := 1) (u := ptrV hb.h) rfl
  have HSH := hide h
  have HT := hide ht
  have HC2 := hide hc2
  have HTK := hide htk
  clear h ht hc1 hc2
  go_enter Tryz.func6, Tryz.ntmps6
  go_upto_if 26 with (first | (go_at_call 14; refine CC.out.mono ?_; rintro e w1 ⟨d1, h1, rfl, hcr⟩; have HCR := hide hcr; clear hcr))
  go_cut [6, 7] from 16 (fun dv hv wx => ∃ d h', dv = ptrV d ∧ hv = ptrV h' ∧ CrR w wx B sb hb (shC lb hb L av tv) all tls av tv M L.clock d h' (-1))
  case first =>
    by_cases hs0 : stop = 0
    · subst hs0
      go_wp2_with fail
      go_meet
      exact ⟨d1, h1, rfl, rfl, HCR.out.up⟩
    · have hsI : (0 : Int) < (stop : Int) := by omega
      have CS1 := hide (CS.out w1 d1 h1 HCR.out)
      have FD : Hid (∀ w2, Cr1 w w2 B sb hb (shC lb hb L av tv) all tls av tv M L.clock d1 h1 (stop : Int) → w2.cell? ⟨sb, 2, none⟩ = some (.int .i64 (L.memory : Int)) ∧ w2.cell? ⟨sb, 3, none⟩ = some (.int .i64 (L.fan : Int)) ∧ w2.cell? ⟨sb, 4, none⟩ = some (.int .i64 (L.back : Int)) ∧ w2.cell? ⟨sb, 5, none⟩ = some (.int .i64 (L.wks.length : Int)) ∧ w2.cell? ⟨sb, 6, none⟩ = some (.int .i64 (L.keep : Int)) ∧ w2.cell? ⟨sb, 7, none⟩ = some (.int .i64 (L.batch : Int))) := fun w2 x => ⟨(cell_of (j := 2) (K1.out _ _ _ _ x) rfl).1, (cell_of (j := 3) (K1.out _ _ _ _ x) rfl).1, (cell_of (j := 4) (K1.out _ _ _ _ x) rfl).1, (cell_of (j := 5) (K1.out _ _ _ _ x) rfl).1, (cell_of (j := 6) (K1.out _ _ _ _ x) rfl).1, (cell_of (j := 7) (K1.out _ _ _ _ x) rfl).1⟩
      clear HSH HC2 HTK CC CS hcf
      generalize L.memory = c2 at *
      generalize L.fan = c3 at *
      generalize L.back = c4 at *
      generalize L.wks.length = c5 at *
      generalize L.keep = c6 at *
      generalize L.batch = c7 at *
      by_cases h4 : stop ≤ 4
      · go_wp2_with (first
          | (go_at_call 15; refine CS1.out.mono ?_; rintro e w2 ⟨rfl, hx2⟩; obtain ⟨f2, f3, f4, f5, f6, f7⟩ := FD.out w2 hx2; have CD2 := hide (CD.out w2 d1 h1 h4 hx2); clear hx2)
          | (go_at_call 16; refine CD2.out.mono ?_; rintro e w3 ⟨rfl, l3, hx3⟩; have CX3 := hide (C2.out w3 d1 h1 l3 hx3); clear hx3)
          | (go_at_call 14; refine CX3.out.mono ?_; rintro e w4 ⟨d4, h4', rfl, hx4⟩; have HX4 := hide hx4; clear hx4))
        go_meet
        exact ⟨d4, h4', rfl, rfl, HX4.out⟩
      · go_wp2_with (first
          | (go_at_call 15; refine CS1.out.mono ?_; rintro e w2 ⟨rfl, hx2⟩; obtain ⟨f2, f3, f4, f5, f6, f7⟩ := FD.out w2 hx2; have CU2 := hide (CU.out w2 d1 h1 (by omega) hx2); clear hx2)
          | (go_at_call 16; refine CU2.out.mono ?_; rintro e w3 ⟨⟨lb3, rfl⟩, l3, hx3⟩; have CX3 := hide (C2.out w3 d1 h1 l3 hx3); clear hx3)
          | (go_at_call 14; refine CX3.out.mono ?_; rintro e w4 ⟨d4, h4', rfl, hx4⟩; have HX4 := hide hx4; clear hx4))
        go_meet
        exact ⟨d4, h4', rfl, rfl, HX4.out⟩
  case rest =>
    obtain ⟨d, h', rfl, rfl, hcr⟩ := hcut
    clear CC CS CD CU C2 K1 HCR
    have hblk := KC.out _ _ _ _ hcr
    obtain ⟨b2, g2⟩ := cell_of (j := 2) (u := .int .i64 (L.memory : Int)) hblk rfl
    obtain ⟨b3, g3⟩ := cell_of (j := 3) (u := .int .i64 (L.fan : Int)) hblk rfl
    have hm8 : ((L.memory : Int)).tmod 8 = ((L.memory % 8 : Nat) : Int) := by rw [Int.tmod_eq_emod_of_nonneg (by omega)]; omega
    have hf3 : ((L.fan : Int) - 1).tmod 3 = (((L.fan - 1) % 3 : Nat) : Int) := by
      have := hcf.2.1.1
      rw [Int.tmod_eq_emod_of_nonneg (by omega)]
      omega
    have HM8 : Hid ((1 : Int) + (L.memory : Int) % 8 = ((1 + L.memory % 8 : Nat) : Int)) := by show _ = _; omega
    have HF3 : Hid ((2 : Int) + (((L.fan - 1 : Nat)) : Int) % 3 = ((2 + (L.fan - 1) % 3 : Nat) : Int)) := by show _ = _; omega
    have HSET := hide ((hcr.set hB 2 (.int .i64 ((1 + L.memory % 8 : Nat) : Int))).set hB 3 (.int .i64 ((2 + (L.fan - 1) % 3 : Nat) : Int)))
    clear hcr hblk
    go_upto_region 11 with fail
    rw [HM8.out, HF3.out]
    generalize (wc.setCell ⟨sb, 2, none⟩ (.int .i64 ((1 + L.memory % 8 : Nat) : Int))).setCell ⟨sb, 3, none⟩ (.int .i64 ((2 + (L.fan - 1) % 3 : Nat) : Int)) = w2 at *
    have CN := hide (new_cr HSET.out hB HT.out (by omega) HTK.out _ _ _ _ _ _ HC2.out)
    have HOK := hide HSH.out.inv.ok
    have HXS : Hid (∀ s, hb.tx = [s] → s.size ≤ 60) := fun s q => by
      rcases HSH.out.dk.tx with e | ⟨s', e, e2, _⟩
      · rw [e] at q; cases q
      · rw [e] at q; injection q with q _; rw [← q]; exact e2
    have HTX := hide HSH.out.dk.tx
    obtain ⟨f2, _⟩ := cell_of (j := 2) (u := .int .i64 ((1 + L.memory % 8 : Nat) : Int)) HSET.out.mem.blk (by simp [shC])
    obtain ⟨f3, _⟩ := cell_of (j := 3) (u := .int .i64 ((2 + (L.fan - 1) % 3 : Nat) : Int)) HSET.out.mem.blk (by simp [shC])
    obtain ⟨f4, _⟩ := cell_of (j := 4) (u := .int .i64 (L.back : Int)) HSET.out.mem.blk (by simp [shC])
    obtain ⟨f5, _⟩ := cell_of (j := 5) (u := .int .i64 (L.wks.length : Int)) HSET.out.mem.blk (by simp [shC])
    obtain ⟨f6, _⟩ := cell_of (j := 6) (u := .int .i64 (L.keep : Int)) HSET.out.mem.blk (by simp [shC])
    obtain ⟨f7, _⟩ := cell_of (j := 7) (u := .int .i64 (L.batch : Int)) HSET.out.mem.blk (by simp [shC])
    clear b2 b3 g2 g3 hm8 hf3 HM8 HF3 HSET KC HSH c1
    generalize (1 + L.memory % 8 : Nat) = m2 at *
    generalize (2 + (L.fan - 1) % 3 : Nat) = fn2 at *
    go_upto_region 14 with (first
      | (go_at_call 16; refine CN.out.mono ?_; rintro e w3 ⟨lb3, rs, rfl, hx3⟩; have HX3 := hide hx3; clear hx3))
    have hbk3 : w3.heap[sb]? = some (Obj.cells (((shC lb hb L av tv).setIfInBounds 2 (.int .i64 (m2 : Int))).setIfInBounds 3 (.int .i64 (fn2 : Int))) 37 (0, 0)) := by
      obtain ⟨⟨ρ3, G3, _, hm3, _⟩, _, _⟩ := HX3.out
      exact hm3.blk
    obtain ⟨e0, f0⟩ := cell_of (j := 0) (u := ptrV lb) hbk3 (by simp [shC])
    obtain ⟨e1, f1⟩ := cell_of (j := 1) (u := ptrV hb.h) hbk3 (by simp [shC])
    obtain ⟨e12, f12⟩ := cell_of (j := 12) (u := tv) hbk3 (by simp [shC])
    have HX4 := hide (((HX3.out.set hB 0 (ptrV lb3)).set hB 1 (ptrV h')).set hB 12 (.slice none 0 0))
    have hC : ((((((shC lb hb L av tv).setIfInBounds 2 (.int .i64 (m2 : Int))).setIfInBounds 3 (.int .i64 (fn2 : Int))).setIfInBounds 0 (ptrV lb3)).setIfInBounds 1 (ptrV h')).setIfInBounds 12 (.slice none 0 0)) = #[ptrV lb3, ptrV h', .int .i64 (m2 : Int), .int .i64 (fn2 : Int), .int .i64 (L.back : Int), .int .i64 (L.wks.length : Int), .int .i64 (L.keep : Int), .int .i64 (L.batch : Int), av, .int .i64 (L.clock : Int), hb.tv, .int .i64 (hb.tk : Int), .slice none 0 0, .bool true] := by simp [shC]
    have HCC := hide hC
    clear hbk3 hC HX3 f2 f3 f4 f5 f6 f7 CN
    go_upto_region 17 with fail
    generalize ((w3.setCell ⟨sb, 0, none⟩ (ptrV lb3)).setCell ⟨sb, 1, none⟩ (ptrV h')).setCell ⟨sb, 12, none⟩ (.slice none 0 0) = w4 at *
    rw [HCC.out] at HX4
    have hbk4 : w4.heap[sb]? = some (Obj.cells #[ptrV lb3, ptrV h', .int .i64 (m2 : Int), .int .i64 (fn2 : Int), .int .i64 (L.back : Int), .int .i64 (L.wks.length : Int), .int .i64 (L.keep : Int), .int .i64 (L.batch : Int), av, .int .i64 (L.clock : Int), hb.tv, .int .i64 (hb.tk : Int), .slice none 0 0, .bool true] 37 (0, 0)) := by
      obtain ⟨⟨ρ3, G3, _, hm3, _⟩, _, _⟩ := HX4.out
      exact hm3.blk
    have CE := hide (entries_ov HX4.out (cell_of (j := 0) hbk4 rfl).1 (by omega))
    have FX : Hid (∀ W, Below w4.heap.size w4 W → OvR w W B sb lb3 hb #[ptrV lb3, ptrV h', .int .i64 (m2 : Int), .int .i64 (fn2 : Int), .int .i64 (L.back : Int), .int .i64 (L.wks.length : Int), .int .i64 (L.keep : Int), .int .i64 (L.batch : Int), av, .int .i64 (L.clock : Int), hb.tv, .int .i64 (hb.tk : Int), .slice none 0 0, .bool true] all tls av tv M L.clock h' m2 fn2 L.back L.wks.length L.keep L.batch rs) := fun W hW => HX4.out.below hB hW
    clear e0 e1 e12 f0 f1 f12 hbk4 HX4 HCC
    go_upto_region 18 with (first
      | (go_at_call 17; refine CE.out.mono ?_; rintro e w5 ⟨rfl, hb5⟩; have HX5 := hide (FX.out w5 hb5); clear hb5))
    clear FX CE
    obtain ⟨ρ5, G5, hl5, hm5, hg5⟩ := HX5.out.fin rfl
    obtain ⟨⟨_⟩, ⟨dt5, hlf⟩, hB5⟩ := HX5.out
    have hcfn := HC2.out
    obtain ⟨hok5, hck5⟩ := over_ok hlf HOK.out HTK.out HXS.out
    have hiv := Inv.over hcfn hok5 hck5
    obtain ⟨s1, s2, s3, s4, s5, s6, s7, s8, s9⟩ := over_same m2 fn2 L.back L.wks.length L.keep L.batch rs
    have htlr := TlR.over m2 fn2 L.back L.wks.length L.keep L.batch rs (rcP rs).2.length
    have hBw5 : B ≤ w5.heap.size := Nat.le_trans hB hB5.size
    obtain ⟨va, vc, hva, hvc, hvm⟩ := own_slice hm5.row
    obtain ⟨xa, xc, hxa, hxc, hxm⟩ := own_slice hm5.x.row
    have hrl := rcL_le hlf.ok
    have hlen5 := hlf.len
    have hdz : G5.dt.size ≤ 64 * M := by
      have h1 := tb_len G5.dt
      rw [hg5.2.1] at h1
      omega
    have hes5 : (rcP rs).2.length ≤ rs.length := rcP_es
    have hnx : hb.tx.length ≤ 1 := by
      rcases HTX.out with e | ⟨s, e, _⟩ <;> rw [e] <;> simp
    unfold maxLen at hvm hxm
    obtain ⟨c8, _⟩ := cell_of (j := 8) (u := .slice va all.length vc) hm5.blk (by rw [← hva]; rfl)
    obtain ⟨c10, _⟩ := cell_of (j := 10) (u := .slice xa hb.tx.length xc) hm5.blk (by rw [← hxa]; rfl)
    have q8 := cell_regrown c8
    have q10 := cell_regrown c10
    have K6 : Hid (∀ W, Below w5.heap.size w5 W → W.cell? ⟨sb, 8, none⟩ = some (.slice va all.length vc) ∧ W.cell? ⟨sb, 9, none⟩ = some (.int .i64 (L.clock : Int)) ∧ W.cell? ⟨sb, 10, none⟩ = some (.slice xa hb.tx.length xc) ∧ W.frozen? ⟨sb, 10, none⟩ = false ∧ W.cell? ⟨sb, 11, none⟩ = some (.int .i64 (hb.tk : Int)) ∧ W.frozen? ⟨sb, 11, none⟩ = false ∧ W.frozen? ⟨sb, 8, none⟩ = false ∧ LogAt W ρ5 B 0 lb3 G5 (Lg.over m2 fn2 L.back L.wks.length L.keep L.batch rs) ∧ ShM W ρ5 B sb { hb with h := h', sb := G5.sb } (shC lb3 { hb with h := h', sb := G5.sb } { Lg.over m2 fn2 L.back L.wks.length L.keep L.batch rs with clock := L.clock } av (.slice none 0 0)) all [] av (.slice none 0 0) ∧ Below B w W) := fun W hW => by
      have hmW := hm5.below hW
      exact ⟨(cell_of (j := 8) hmW.blk (by rw [← hva]; rfl)).1, (cell_of (j := 9) hmW.blk rfl).1, (cell_of (j := 10) hmW.blk (by rw [← hxa]; rfl)).1, (cell_of (j := 10) (u := hb.tv) hmW.blk rfl).2, (cell_of (j := 11) hmW.blk rfl).1, (cell_of (j := 11) (u := .int .i64 (hb.tk : Int)) hmW.blk rfl).2, (cell_of (j := 8) (u := av) hmW.blk rfl).2, hl5.below hW, hmW, hB5.trans (belowB hW hBw5)⟩
    generalize hLO : Lg.over m2 fn2 L.back L.wks.length L.keep L.batch rs = LO at *
    have hone : rs.length ≤ M + 1 := by omega
    clear hl5 hm5 HX5 hcfn HC2 hok5 hcf
    rcases hlf.told with e | ⟨s, q, e⟩ | ⟨q, e⟩
    · have en : (rcP rs).2.length = all.length := by rw [e]
      have hcl : LO.clock = L.clock := by rw [s6, e]
      have hLL : ({ LO with clock := L.clock } : Lg) = LO := by rw [← hcl]
      have hiv2 : Inv LO all := by have h2 := hiv; rw [e] at h2; exact h2
      have htl2 : TlR LO [] all.length := by have h2 := htlr; rw [e] at h2; exact h2
      rw [en]
      have d1 : decide ((all.length : Int) < (all.length : Int)) = false := decide_eq_false (by omega)
      have d2 : decide ((all.length : Int) + (hb.tx.length : Int) < (all.length : Int)) = false := decide_eq_false (by omega)
      refine wp_region_quiet_below (by kernel_rfl) (by kernel_rfl) ?_
      repeat (go_big_quiet_step (fail))
      refine wpQuiet_nil ?_
      intro _ hw'
      obtain ⟨⟨dq, osq⟩, hw''⟩ := hw'
      subst hw''
      obtain ⟨c8, c9, c10, f10, c11, f11, f8, hl6, hm6, hB6⟩ := K6.out _ (below_regrown w5 dq osq)
      generalize Sort.grow (redrawn w5 dq) osq = w6 at *
      have hBw6 : B ≤ w6.heap.size := Nat.le_trans hB hB6.size
      by_cases htk0 : hb.tk = 0
      · have hm7 := hm6
        rw [hLL] at hm7
        have FIN := hide (ov_done hl6 hm7 hiv2 hB hB6 ⟨hg5.1, hg5.2.1, hg5.2.2, rfl⟩ hlf.ok hone (by rw [e, hcl]) htl2)
        have c11' : w6.cell? ⟨sb, 11, none⟩ = some (.int .i64 0) := by rw [c11, htk0]; rfl
        clear hm7 hm6 hl6 c11 K6 q8 q10
        go_wp2_with fail
        go_end0
        exact ⟨rfl, _, _, _, _, FIN.out⟩
      · have CLt0 := late_any (M := M) hl6 hm6 hBw6 (HT.out.next hB6) hiv2 hg5.1 s8 (by show 0 < hb.tk; omega) (Or.inl hcl) htk.2 (by omega) hdz (by omega)
        rw [show decide (¬ LO.clock = L.clock) = false from decide_eq_false (by rw [hcl]; simp)] at CLt0
        have CLt := hide CLt0
        have FN : Hid (∀ w7, LtR w6 w7 ρ5 B 0 lb3 sb { hb with h := h', sb := G5.sb } G5 LO L.clock all [] (.slice none 0 0) → w7.cell? ⟨sb, 9, none⟩ = some (.int .i64 (L.clock : Int)) ∧ w7.frozen? ⟨sb, 9, none⟩ = false ∧ w7.cell? ⟨sb, 10, none⟩ = some hb.tv ∧ w7.frozen? ⟨sb, 10, none⟩ = false ∧ w7.cell? ⟨sb, 11, none⟩ = some (.int .i64 (hb.tk : Int)) ∧ w7.frozen? ⟨sb, 11, none⟩ = false ∧ ∃ L' all', ShX w ((w7.setCell ⟨sb, 10, none⟩ (.slice none 0 0)).setCell ⟨sb, 11, none⟩ (.int .i64 0)) B 0 (M + 1) lb3 sb ⟨h', G5.sb, .slice none 0 0, [], 0⟩ L' all' []) := by
          intro w7 hx
          obtain ⟨⟨ρ', G', av', a1, a2, a3, a4, a5, a6⟩, a7⟩ := hx
          refine ⟨(cell_of (j := 9) a2.blk rfl).1, (cell_of (j := 9) (u := .int .i64 (L.clock : Int)) a2.blk rfl).2, (cell_of (j := 10) a2.blk rfl).1, (cell_of (j := 10) (u := hb.tv) a2.blk rfl).2, (cell_of (j := 11) a2.blk rfl).1, (cell_of (j := 11) (u := .int .i64 (hb.tk : Int)) a2.blk rfl).2, LO.app nowT, all ++ [⟨(all.length : Int), (LO.clock : Int), nowT⟩], ?_⟩
          have hB7 := hB6.trans a7
          rw [hLL] at a2
          have a2' := a2
          rw [← shC_app _ _ _ nowT] at a2'
          have htb : tb G'.dt = rcL (rs ++ [.lay nowT]) := by
            rw [a3, tb_append, hg5.2.1, rcL_snoc]
            exact congrArg _ (rc_rec (r := .lay nowT) (by show nowT.size ≤ 60; decide))
          have hok2 : ∀ x ∈ rs ++ [Rc.lay nowT], x.ok := fun x hx => by
            rcases List.mem_append.1 hx with q | q
            · exact hlf.ok x q
            · rw [List.mem_singleton.1 q]; show nowT.size ≤ 60; decide
          have hp2 : rcP (rs ++ [.lay nowT]) = ((LO.app nowT).clock, all ++ [⟨(all.length : Int), (LO.clock : Int), nowT⟩]) := by
            rw [rcP_snoc, app_clock, e, hcl]
            rfl
          exact ov_done a1 a2' (hiv2.app (by decide)) hB hB7 ⟨a4, htb, a5, a6⟩ hok2 (by rw [List.length_append, List.length_singleton]; omega) hp2 (htl2.mono (by simp) (by unfold Lg.app Lg.more; split <;> rfl) (by unfold Lg.app Lg.more; split <;> rfl) (by unfold Lg.app Lg.more; split <;> rfl))
        have htI : (0 : Int) < (hb.tk : Int) := by omega
        clear hm6 hl6 K6 q8 q10 CLt0
        go_wp2_with (first
          | (go_at_call 18; refine CLt.out.mono ?_; rintro e' w7 ⟨rfl, hx7⟩; obtain ⟨g9, i9, g10, i10, g11, i11, L7, all7, hs7⟩ := FN.out w7 hx7; have HS7 := hide hs7; clear hx7 hs7))
        go_end0
        exact ⟨rfl, _, _, _, _, HS7.out⟩
    · obtain ⟨i0, hi0, hz0, hz1, hz2⟩ := info_parts Tryz.info49
      have hx1 : hb.tx.length = 1 := by rw [q]; rfl
      have htk0 : hb.tk = 0 := by
        rcases HTX.out with e' | ⟨s', e', _, e3⟩
        · rw [e'] at q; cases q
        · exact e3
      have en : (rcP rs).2.length = all.length + 1 := by rw [e]; simp
      have hcl : LO.clock = L.clock := by rw [s6, e]
      have hLL : ({ LO with clock := L.clock } : Lg) = LO := by rw [← hcl]
      have hiv2 : Inv LO (all ++ [⟨(all.length : Int), (L.clock : Int), s⟩]) := by have h2 := hiv; rw [e] at h2; exact h2
      have htl2 : TlR LO [] (all ++ [(⟨(all.length : Int), (L.clock : Int), s⟩ : Ent)]).length := by have h2 := htlr; rw [e] at h2; exact h2
      rw [en]
      have d1 : decide (((all.length + 1 : Nat) : Int) < (all.length : Int)) = false := decide_eq_false (by omega)
      have d2 : decide ((all.length : Int) + (hb.tx.length : Int) < ((all.length + 1 : Nat) : Int)) = false := decide_eq_false (by omega)
      have d1' : decide ((all.length : Int) + 1 < (all.length : Int)) = false := decide_eq_false (by omega)
      have d2' : decide ((all.length : Int) + (hb.tx.length : Int) < (all.length : Int) + 1) = false := decide_eq_false (by omega)
      refine wp_region_quiet_below (by kernel_rfl) (by kernel_rfl) ?_
      repeat (go_big_quiet_step (fail))
      refine wpQuiet_nil ?_
      intro _ hw'
      obtain ⟨⟨dq, osq⟩, hw''⟩ := hw'
      subst hw''
      obtain ⟨c8, c9, c10, f10, c11, f11, f8, hl6, hm6, hB6⟩ := K6.out _ (below_regrown w5 dq osq)
      generalize Sort.grow (redrawn w5 dq) osq = w6 at *
      have hBw6 : B ≤ w6.heap.size := Nat.le_trans hB hB6.size
      have hrx : w6.ownsRow B 9 1 (.slice xa hb.tx.length xc) hb.tx.length (hb.tx.map Value.string) := by
        have h2 := hm6.x.row
        rw [show ({ hb with h := h', sb := G5.sb } : Xt).tv = .slice xa hb.tx.length xc from hxa] at h2
        exact h2
      obtain ⟨xg, rfl⟩ := own_some hrx (by omega)
      have cx : w6.cell? ⟨xg, 0, none⟩ = some (.string s) := own_get hrx (j := 0) (by rw [q]; rfl)
      have c11' : w6.cell? ⟨sb, 11, none⟩ = some (.int .i64 0) := by rw [c11, htk0]; rfl
      have hva' : av = .slice va all.length vc := hva
      rw [hva'] at hm6
      have c8' := cellA (o := Obj.cells #[.int .i64 (all.length : Int), .int .i64 (L.clock : Int), .string s] 49) c8
      have HROW := hide hm6.row
      have HL6 := hide hl6
      have HM6 := hide hm6
      have hxI : (hb.tx.length : Int) = 1 := by omega
      clear hm6 hl6 K6 q8 q10 c11 hrx
      rw [hx1] at c10
      have htv : hb.tv = .slice (some ⟨xg, 0, none⟩) 1 xc := by
        rw [← hx1]
        exact hxa
      obtain ⟨_, hxlt, xD, hxb⟩ := own_block HM6.out.x.row (g := xg) (by show some xg = hb.tv.ownBlock; rw [htv]; rfl)
      have hxv : some xg ≠ (Value.slice va all.length vc).ownBlock := fun q2 => by
        obtain ⟨_, _, D', hD'⟩ := own_block HM6.out.row q2
        exact absurd (cells_ty hxb hD') (by decide)
      go_upto_region 21 with fail
      go_cut [] from 157 (fun wx => ∃ a5 c5, LogAt wx ρ5 B 0 lb3 G5 LO ∧ ShM wx ρ5 B sb { hb with h := h', sb := G5.sb } (shC lb3 { hb with h := h', sb := G5.sb } { LO with clock := L.clock } (.slice a5 (all.length + 1) c5) (.slice none 0 0)) (all ++ [⟨(all.length : Int), (L.clock : Int), s⟩]) [] (.slice a5 (all.length + 1) c5) (.slice none 0 0) ∧ Below B w6 wx)
      case first =>
        have e8 : w6.drew.cell? ⟨sb, 8, none⟩ = some (.slice va all.length vc) := c8
        have e9 : w6.drew.cell? ⟨sb, 9, none⟩ = some (.int .i64 (L.clock : Int)) := c9
        have e10 : w6.drew.cell? ⟨sb, 10, none⟩ = some (.slice (some ⟨xg, 0, none⟩) 1 xc) := c10
        have ex : w6.drew.cell? ⟨xg, 0, none⟩ = some (.string s) := cx
        refine wp_region_z (S := fun w' => w'.cell? ⟨sb, 8, none⟩ = some (.slice va all.length vc) ∧ w'.cell? ⟨sb, 9, none⟩ = some (.int .i64 (L.clock : Int)) ∧ w'.cell? ⟨sb, 10, none⟩ = some (.slice (some ⟨xg, 0, none⟩) 1 xc) ∧ w'.cell? ⟨xg, 0, none⟩ = some (.string s)) (z := 25) (by kernel_rfl) ?_
        have hS0 : (fun w' : World => w'.cell? ⟨sb, 8, none⟩ = some (.slice va all.length vc) ∧ w'.cell? ⟨sb, 9, none⟩ = some (.int .i64 (L.clock : Int)) ∧ w'.cell? ⟨sb, 10, none⟩ = some (.slice (some ⟨xg, 0, none⟩) 1 xc) ∧ w'.cell? ⟨xg, 0, none⟩ = some (.string s)) w6.drew := ⟨e8, e9, e10, ex⟩
        refine wpZ_take 25 0 (some 157) (v := ?_) (by kernel_rfl) (by kernel_rfl) (by kernel_rfl) (by kernel_rfl) (by kernel_rfl) (by kernel_rfl) (fun _ _ _ h => h) hS0 (fun o ho => ?_) ?_
        rotate_left
        · simp only [List.getElem?_toArray, List.getElem?_cons_zero, Option.some.injEq] at ho
          subst ho
          refine Or.inl ⟨by rfl, fun w hSw => ?_⟩
          obtain ⟨hs8, hs9, hs10, hsx⟩ := hSw
          go_simp
          try rfl
        simp only [Act.put, List.setIfInBounds_toArray, List.set_cons_zero, List.set_cons_succ]
        refine wpZ_take 25 1 (some 158) (v := ?_) (by kernel_rfl) (by kernel_rfl) (by kernel_rfl) (by kernel_rfl) (by kernel_rfl) (by kernel_rfl) (fun _ _ _ h => h) hS0 (fun o ho => ?_) ?_
        rotate_left
        · simp only [List.getElem?_toArray, List.getElem?_cons_succ, List.getElem?_cons_zero, Option.some.injEq] at ho
          subst ho
          refine Or.inl ⟨by rfl, fun w hSw => ?_⟩
          obtain ⟨hs8, hs9, hs10, hsx⟩ := hSw
          go_simp
          try rfl
        simp only [Act.put, List.setIfInBounds_toArray, List.set_cons_zero, List.set_cons_succ]
        refine wpZ_take 25 2 (some 159) (v := ?_) (by kernel_rfl) (by kernel_rfl) (by kernel_rfl) (by kernel_rfl) (by kernel_rfl) (by kernel_rfl) (fun _ _ _ h => h) hS0 (fun o ho => ?_) ?_
        rotate_left
        · simp only [List.getElem?_toArray, List.getElem?_cons_succ, List.getElem?_cons_zero, Option.some.injEq] at ho
          subst ho
          refine Or.inl ⟨by rfl, fun w hSw => ?_⟩
          obtain ⟨hs8, hs9, hs10, hsx⟩ := hSw
          go_simp
          try rfl
        simp only [Act.put, List.setIfInBounds_toArray, List.set_cons_zero, List.set_cons_succ]
        refine wpZ_take 25 3 (some 160) (v := ?_) (by kernel_rfl) (by kernel_rfl) (by kernel_rfl) (by kernel_rfl) (by kernel_rfl) (by kernel_rfl) (fun _ _ _ h => h) hS0 (fun o ho => ?_) ?_
        rotate_left
        · simp only [List.getElem?_toArray, List.getElem?_cons_succ, List.getElem?_cons_zero, Option.some.injEq] at ho
          subst ho
          refine Or.inl ⟨by rfl, fun w hSw => ?_⟩
          obtain ⟨hs8, hs9, hs10, hsx⟩ := hSw
          go_simp
          try rfl
        simp only [Act.put, List.setIfInBounds_toArray, List.set_cons_zero, List.set_cons_succ]
        refine wpZ_take 25 4 (some 161) (v := ?_) (by kernel_rfl) (by kernel_rfl) (by kernel_rfl) (by kernel_rfl) (by kernel_rfl) (by kernel_rfl) (fun _ _ _ h => h) hS0 (fun o ho => ?_) ?_
        rotate_left
        · simp only [List.getElem?_toArray, List.getElem?_cons_succ, List.getElem?_cons_zero, Option.some.injEq] at ho
          subst ho
          refine Or.inl ⟨by rfl, fun w hSw => ?_⟩
          obtain ⟨hs8, hs9, hs10, hsx⟩ := hSw
          go_simp
          try rfl
        simp only [Act.put, List.setIfInBounds_toArray, List.set_cons_zero, List.set_cons_succ]
        refine wpZ_take 25 5 (some 162) (v := ?_) (by kernel_rfl) (by kernel_rfl) (by kernel_rfl) (by kernel_rfl) (by kernel_rfl) (by kernel_rfl) (fun _ _ _ h => h) hS0 (fun o ho => ?_) ?_
        rotate_left
        · simp only [List.getElem?_toArray, List.getElem?_cons_succ, List.getElem?_cons_zero, Option.some.injEq] at ho
          subst ho
          refine Or.inl ⟨by rfl, fun w hSw => ?_⟩
          obtain ⟨hs8, hs9, hs10, hsx⟩ := hSw
          go_simp
          try rfl
        simp only [Act.put, List.setIfInBounds_toArray, List.set_cons_zero, List.set_cons_succ]
        refine wpZ_take 25 6 (some 163) (v := ?_) (by kernel_rfl) (by kernel_rfl) (by kernel_rfl) (by kernel_rfl) (by kernel_rfl) (by kernel_rfl) (fun _ _ _ h => h) hS0 (fun o ho => ?_) ?_
        rotate_left
        · simp only [List.getElem?_toArray, List.getElem?_cons_succ, List.getElem?_cons_zero, Option.some.injEq] at ho
          subst ho
          refine Or.inl ⟨by rfl, fun w hSw => ?_⟩
          obtain ⟨hs8, hs9, hs10, hsx⟩ := hSw
          go_simp
          try rfl
        simp only [Act.put, List.setIfInBounds_toArray, List.set_cons_zero, List.set_cons_succ]
        refine wpZ_take 25 7 (some 164) (v := ?_) (by kernel_rfl) (by kernel_rfl) (by kernel_rfl) (by kernel_rfl) (by kernel_rfl) (by kernel_rfl) (fun _ _ _ h => h) hS0 (fun o ho => ?_) ?_
        rotate_left
        · simp only [List.getElem?_toArray, List.getElem?_cons_succ, List.getElem?_cons_zero, Option.some.injEq] at ho
          subst ho
          refine Or.inl ⟨by rfl, fun w hSw => ?_⟩
          obtain ⟨hs8, hs9, hs10, hsx⟩ := hSw
          go_simp
          try rfl
        simp only [Act.put, List.setIfInBounds_toArray, List.set_cons_zero, List.set_cons_succ]
        refine wpZ_take 25 8 (some 165) (v := ?_) (by kernel_rfl) (by kernel_rfl) (by kernel_rfl) (by kernel_rfl) (by kernel_rfl) (by kernel_rfl) (fun _ _ _ h => h) hS0 (fun o ho => ?_) ?_
        rotate_left
        · simp only [List.getElem?_toArray, List.getElem?_cons_succ, List.getElem?_cons_zero, Option.some.injEq] at ho
          subst ho
          refine Or.inl ⟨by rfl, fun w hSw => ?_⟩
          obtain ⟨hs8, hs9, hs10, hsx⟩ := hSw
          go_simp
          try rfl
        simp only [Act.put, List.setIfInBounds_toArray, List.set_cons_zero, List.set_cons_succ]
        refine wpZ_take 25 9 (some 166) (v := ?_) (by kernel_rfl) (by kernel_rfl) (by kernel_rfl) (by kernel_rfl) (by kernel_rfl) (by kernel_rfl) (fun _ _ _ h => h) hS0 (fun o ho => ?_) ?_
        rotate_left
        · simp only [List.getElem?_toArray, List.getElem?_cons_succ, List.getElem?_cons_zero, Option.some.injEq] at ho
          subst ho
          refine Or.inl ⟨by rfl, fun w hSw => ?_⟩
          obtain ⟨hs8, hs9, hs10, hsx⟩ := hSw
          go_simp
          try rfl
        simp only [Act.put, List.setIfInBounds_toArray, List.set_cons_zero, List.set_cons_succ]
        refine wpZ_take 25 10 (some 167) (v := ?_) (by kernel_rfl) (by kernel_rfl) (by kernel_rfl) (by kernel_rfl) (by kernel_rfl) (by kernel_rfl) (fun _ _ _ h => h) hS0 (fun o ho => ?_) ?_
        rotate_left
        · simp only [List.getElem?_toArray, List.getElem?_cons_succ, List.getElem?_cons_zero, Option.some.injEq] at ho
          subst ho
          refine Or.inl ⟨by rfl, fun w hSw => ?_⟩
          obtain ⟨hs8, hs9, hs10, hsx⟩ := hSw
          go_simp
          try rfl
        simp only [Act.put, List.setIfInBounds_toArray, List.set_cons_zero, List.set_cons_succ]
        refine wpZ_take 25 11 (some 168) (v := ?_) (by kernel_rfl) (by kernel_rfl) (by kernel_rfl) (by kernel_rfl) (by kernel_rfl) (by kernel_rfl) (fun _ _ _ h => h) hS0 (fun o ho => ?_) ?_
        rotate_left
        · simp only [List.getElem?_toArray, List.getElem?_cons_succ, List.getElem?_cons_zero, Option.some.injEq] at ho
          subst ho
          refine Or.inl ⟨by rfl, fun w hSw => ?_⟩
          obtain ⟨hs8, hs9, hs10, hsx⟩ := hSw
          go_simp
          try rfl
        simp only [Act.put, List.setIfInBounds_toArray, List.set_cons_zero, List.set_cons_succ]
        refine wpZ_take 25 12 (some 169) (v := ?_) (by kernel_rfl) (by kernel_rfl) (by kernel_rfl) (by kernel_rfl) (by kernel_rfl) (by kernel_rfl) (fun _ _ _ h => h) hS0 (fun o ho => ?_) ?_
        rotate_left
        · simp only [List.getElem?_toArray, List.getElem?_cons_succ, List.getElem?_cons_zero, Option.some.injEq] at ho
          subst ho
          refine Or.inl ⟨by rfl, fun w hSw => ?_⟩
          obtain ⟨hs8, hs9, hs10, hsx⟩ := hSw
          go_simp
          try rfl
        simp only [Act.put, List.setIfInBounds_toArray, List.set_cons_zero, List.set_cons_succ]
        refine wpZ_take 25 13 (some 170) (v := ?_) (by kernel_rfl) (by kernel_rfl) (by kernel_rfl) (by kernel_rfl) (by kernel_rfl) (by kernel_rfl) (fun _ _ _ h => h) hS0 (fun o ho => ?_) ?_
        rotate_left
        · simp only [List.getElem?_toArray, List.getElem?_cons_succ, List.getElem?_cons_zero, Option.some.injEq] at ho
          subst ho
          refine Or.inl ⟨by rfl, fun w hSw => ?_⟩
          obtain ⟨hs8, hs9, hs10, hsx⟩ := hSw
          go_simp
          try rfl
        simp only [Act.put, List.setIfInBounds_toArray, List.set_cons_zero, List.set_cons_succ]
        refine wpZ_take 25 14 (some 171) (v := ?_) (by kernel_rfl) (by kernel_rfl) (by kernel_rfl) (by kernel_rfl) (by kernel_rfl) (by kernel_rfl) (fun _ _ _ h => h) hS0 (fun o ho => ?_) ?_
        rotate_left
        · simp only [List.getElem?_toArray, List.getElem?_cons_succ, List.getElem?_cons_zero, Option.some.injEq] at ho
          subst ho
          refine Or.inl ⟨by rfl, fun w hSw => ?_⟩
          obtain ⟨hs8, hs9, hs10, hsx⟩ := hSw
          go_simp
          try rfl
        simp only [Act.put, List.setIfInBounds_toArray, List.set_cons_zero, List.set_cons_succ]
        refine wpZ_take 25 15 (some 172) (v := ?_) (by kernel_rfl) (by kernel_rfl) (by kernel_rfl) (by kernel_rfl) (by kernel_rfl) (by kernel_rfl) (fun _ _ _ h => h) hS0 (fun o ho => ?_) ?_
        rotate_left
        · simp only [List.getElem?_toArray, List.getElem?_cons_succ, List.getElem?_cons_zero, Option.some.injEq] at ho
          subst ho
          refine Or.inl ⟨by rfl, fun w hSw => ?_⟩
          obtain ⟨hs8, hs9, hs10, hsx⟩ := hSw
          go_simp
          try rfl
        simp only [Act.put, List.setIfInBounds_toArray, List.set_cons_zero, List.set_cons_succ]
        refine wpZ_take 25 16 (some 173) (v := ?_) (by kernel_rfl) (by kernel_rfl) (by kernel_rfl) (by kernel_rfl) (by kernel_rfl) (by kernel_rfl) (fun _ _ _ h => h) hS0 (fun o ho => ?_) ?_
        rotate_left
        · simp only [List.getElem?_toArray, List.getElem?_cons_succ, List.getElem?_cons_zero, Option.some.injEq] at ho
          subst ho
          refine Or.inl ⟨by rfl, fun w hSw => ?_⟩
          obtain ⟨hs8, hs9, hs10, hsx⟩ := hSw
          go_simp
          try rfl
        simp only [Act.put, List.setIfInBounds_toArray, List.set_cons_zero, List.set_cons_succ]
        refine wpZ_take 25 17 (some 174) (v := ?_) (by kernel_rfl) (by kernel_rfl) (by kernel_rfl) (by kernel_rfl) (by kernel_rfl) (by kernel_rfl) (fun _ _ _ h => h) hS0 (fun o ho => ?_) ?_
        rotate_left
        · simp only [List.getElem?_toArray, List.getElem?_cons_succ, List.getElem?_cons_zero, Option.some.injEq] at ho
          subst ho
          refine Or.inl ⟨by rfl, fun w hSw => ?_⟩
          obtain ⟨hs8, hs9, hs10, hsx⟩ := hSw
          go_simp
          try rfl
        simp only [Act.put, List.setIfInBounds_toArray, List.set_cons_zero, List.set_cons_succ]
        refine wpZ_take 25 18 (some 175) (v := ?_) (by kernel_rfl) (by kernel_rfl) (by kernel_rfl) (by kernel_rfl) (by kernel_rfl) (by kernel_rfl) (fun _ _ _ h => h) hS0 (fun o ho => ?_) ?_
        rotate_left
        · simp only [List.getElem?_toArray, List.getElem?_cons_succ, List.getElem?_cons_zero, Option.some.injEq] at ho
          subst ho
          refine Or.inl ⟨by rfl, fun w hSw => ?_⟩
          obtain ⟨hs8, hs9, hs10, hsx⟩ := hSw
          go_simp
          try rfl
        simp only [Act.put, List.setIfInBounds_toArray, List.set_cons_zero, List.set_cons_succ]
        refine wpZ_take 25 19 (some 176) (v := ?_) (by kernel_rfl) (by kernel_rfl) (by kernel_rfl) (by kernel_rfl) (by kernel_rfl) (by kernel_rfl) (fun _ _ _ h => h) hS0 (fun o ho => ?_) ?_
        rotate_left
        · simp only [List.getElem?_toArray, List.getElem?_cons_succ, List.getElem?_cons_zero, Option.some.injEq] at ho
          subst ho
          refine Or.inl ⟨by rfl, fun w hSw => ?_⟩
          obtain ⟨hs8, hs9, hs10, hsx⟩ := hSw
          go_simp
          try rfl
        simp only [Act.put, List.setIfInBounds_toArray, List.set_cons_zero, List.set_cons_succ]
        refine wpZ_take 25 20 (some 177) (v := ?_) (by kernel_rfl) (by kernel_rfl) (by kernel_rfl) (by kernel_rfl) (by kernel_rfl) (by kernel_rfl) (fun _ _ _ h => h) hS0 (fun o ho => ?_) ?_
        rotate_left
        · simp only [List.getElem?_toArray, List.getElem?_cons_succ, List.getElem?_cons_zero, Option.some.injEq] at ho
          subst ho
          refine Or.inl ⟨by rfl, fun w hSw => ?_⟩
          obtain ⟨hs8, hs9, hs10, hsx⟩ := hSw
          go_simp
          try rfl
        simp only [Act.put, List.setIfInBounds_toArray, List.set_cons_zero, List.set_cons_succ]
        refine wpZ_step 21 (by kernel_rfl) (by kernel_rfl) (fun o ho K hK => ?_)
        simp only [List.getElem?_toArray, List.getElem?_cons_succ, List.getElem?_cons_zero, Option.some.injEq] at ho
        subst ho
        go_simp
        refine hK _ _ (Or.inr ⟨cellA e8, cellA e9, cellA e10, cellA ex⟩) ?_
        clear hK K
        (try simp only [Act.put, List.setIfInBounds_toArray, List.set_cons_zero, List.set_cons_succ])
        refine wpZ_step 22 (by kernel_rfl) (by kernel_rfl) (fun o ho K hK => ?_)
        simp only [List.getElem?_toArray, List.getElem?_cons_succ, List.getElem?_cons_zero, Option.some.injEq] at ho
        subst ho
        (refine step_own_at _ rfl _ _ 33 rfl B 49 i0 (.agg #[.int .i64 0, .int .i64 0, .string ByteArray.empty]) 3 32 Tryz.underlying33 hi0 hz0 hz1 hz2 rfl (by decide) _ _ _ rfl (by exact HROW.out.alloc _) ⟨w6.heap.size, 0, none⟩ 1 1 [.int .i64 (all.length : Int), .int .i64 (L.clock : Int), .string s] rfl rfl (by exact cell_three_new w6.drew _ _ _ _) (by intro u hu; simp at hu; rcases hu with rfl | rfl | rfl <;> rfl) (by unfold maxLen; omega) (by omega) (by simp; omega) ?_; intro v5 W5 o5 g5 n5; obtain ⟨a5, c5, rfl, hc5, hm5⟩ := own_slice o5; have g6 : (w6.alloc (Obj.cells #[.int .i64 (all.length : Int), .int .i64 (L.clock : Int), .string s] 49)).grownBy W5 (Value.slice va all.length vc).ownBlock := ⟨g5.os, g5.tape, g5.output, g5.size, g5.block⟩; have KM := hide (ShM.more (e := ⟨(all.length : Int), (L.clock : Int), s⟩) HL6.out HM6.out hBw6 o5 g6 n5); obtain ⟨fb, ff⟩ := cell_of (j := 8) (u := .slice va all.length vc) KM.out.1 rfl)
        have nx : W5.cell? ⟨xg, 0, none⟩ = some (.string s) := (World.cell?_of_block (w := w6) (a := ⟨xg, 0, none⟩) (by
          show W5.heap[xg]? = w6.heap[xg]?
          rw [g6.block xg (by simp; omega) hxv, Mth.hAO w6 _ (r := xg) hxlt])).trans cx
        have hS5 : (fun w' : World => w'.cell? ⟨sb, 8, none⟩ = some (.slice va all.length vc) ∧ w'.cell? ⟨sb, 9, none⟩ = some (.int .i64 (L.clock : Int)) ∧ w'.cell? ⟨sb, 10, none⟩ = some (.slice (some ⟨xg, 0, none⟩) 1 xc) ∧ w'.cell? ⟨xg, 0, none⟩ = some (.string s)) W5 := ⟨fb, (cell_of (j := 9) KM.out.1 rfl).1, (cell_of (j := 10) KM.out.1 (by rw [← htv]; rfl)).1, nx⟩
        refine hK _ _ (Or.inr hS5) ?_
        clear hK K
        (try simp only [Act.put, List.setIfInBounds_toArray, List.set_cons_zero, List.set_cons_succ])
        refine wpZ_take 25 23 (some 180) (v := ?_) (by kernel_rfl) (by kernel_rfl) (by kernel_rfl) (by kernel_rfl) (by kernel_rfl) (by kernel_rfl) (fun _ _ _ h => h) hS5 (fun o ho => ?_) ?_
        rotate_left
        · simp only [List.getElem?_toArray, List.getElem?_cons_succ, List.getElem?_cons_zero, Option.some.injEq] at ho
          subst ho
          refine Or.inl ⟨by rfl, fun w hSw => ?_⟩
          obtain ⟨hs8, hs9, hs10, hsx⟩ := hSw
          go_simp
          try rfl
        simp only [Act.put, List.setIfInBounds_toArray, List.set_cons_zero, List.set_cons_succ]
        refine wpZ_take 25 24 (some 181) (v := ?_) (by kernel_rfl) (by kernel_rfl) (by kernel_rfl) (by kernel_rfl) (by kernel_rfl) (by kernel_rfl) (fun _ _ _ h => h) hS5 (fun o ho => ?_) ?_
        rotate_left
        · simp only [List.getElem?_toArray, List.getElem?_cons_succ, List.getElem?_cons_zero, Option.some.injEq] at ho
          subst ho
          refine Or.inl ⟨by rfl, fun w hSw => ?_⟩
          obtain ⟨hs8, hs9, hs10, hsx⟩ := hSw
          go_simp
          try rfl
        simp only [Act.put, List.setIfInBounds_toArray, List.set_cons_zero, List.set_cons_succ]
        refine wpZ_step 25 (by kernel_rfl) (by kernel_rfl) (fun o ho K hK => ?_)
        simp only [List.getElem?_toArray, List.getElem?_cons_succ, List.getElem?_cons_zero, Option.some.injEq] at ho
        subst ho
        go_simp
        refine hK _ _ (Or.inl rfl) ?_
        clear hK K
        refine wpZ_done (by kernel_rfl) ?_ _
        obtain ⟨_, k2, k3, k4⟩ := KM.out
        rw [shC_all] at k3
        have FIN := hide (⟨k2, k3, k4⟩ : _ ∧ _ ∧ _)
        clear KM k2 k3 k4
        go_wp2_with fail
        go_meet
        exact ⟨_, _, FIN.out.1, FIN.out.2.1, FIN.out.2.2⟩
      case rest =>
        obtain ⟨a5, c5, k2, k3, k4⟩ := hcut
        obtain ⟨j11, i11⟩ := cell_of (j := 11) (u := .int .i64 0) k3.blk (by show some (Value.int .i64 (hb.tk : Int)) = _; rw [htk0]; rfl)
        obtain ⟨j10, i10⟩ := cell_of (j := 10) (u := hb.tv) k3.blk rfl
        rw [hLL] at k3
        have FIN := hide (ov_done k2 k3 hiv2 hB (hB6.trans k4) ⟨hg5.1, hg5.2.1, hg5.2.2, rfl⟩ hlf.ok hone (by rw [e, hcl]) htl2)
        clear k2 k3 k4 c8 c8' f8 cx c10 c11'
        go_wp2_with fail
        go_end0
        exact ⟨rfl, _, _, _, _, FIN.out⟩
    · have en : (rcP rs).2.length = all.length := by rw [e]
      have hcl : LO.clock = L.clock + hb.tk := by rw [s6, e]
      have hiv2 : Inv LO all := by have h2 := hiv; rw [e] at h2; exact h2
      have htl2 : TlR LO [] all.length := by have h2 := htlr; rw [e] at h2; exact h2
      rw [en]
      have d1 : decide ((all.length : Int) < (all.length : Int)) = false := decide_eq_false (by omega)
      have d2 : decide ((all.length : Int) + (hb.tx.length : Int) < (all.length : Int)) = false := decide_eq_false (by omega)
      refine wp_region_quiet_below (by kernel_rfl) (by kernel_rfl) ?_
      repeat (go_big_quiet_step (fail))
      refine wpQuiet_nil ?_
      intro _ hw'
      obtain ⟨⟨dq, osq⟩, hw''⟩ := hw'
      subst hw''
      obtain ⟨c8, c9, c10, f10, c11, f11, f8, hl6, hm6, hB6⟩ := K6.out _ (below_regrown w5 dq osq)
      generalize Sort.grow (redrawn w5 dq) osq = w6 at *
      have hBw6 : B ≤ w6.heap.size := Nat.le_trans hB hB6.size
      have CLt0 := late_any (M := M) hl6 hm6 hBw6 (HT.out.next hB6) hiv2 hg5.1 s8 (by show 0 < hb.tk; omega) (Or.inr hcl) htk.2 (by omega) hdz (by omega)
      rw [show decide (¬ LO.clock = L.clock) = true from decide_eq_true (by omega)] at CLt0
      have CLt := hide CLt0
      have FN : Hid (∀ w7, LtR w6 w7 ρ5 B 0 lb3 sb { hb with h := h', sb := G5.sb } G5 LO L.clock all [] (.slice none 0 0) → w7.cell? ⟨sb, 9, none⟩ = some (.int .i64 (L.clock : Int)) ∧ w7.frozen? ⟨sb, 9, none⟩ = false ∧ w7.cell? ⟨sb, 10, none⟩ = some hb.tv ∧ w7.frozen? ⟨sb, 10, none⟩ = false ∧ w7.cell? ⟨sb, 11, none⟩ = some (.int .i64 (hb.tk : Int)) ∧ w7.frozen? ⟨sb, 11, none⟩ = false ∧ ∃ L' all', ShX w (((w7.setCell ⟨sb, 9, none⟩ (.int .i64 ((L.clock : Int) + (hb.tk : Int)))).setCell ⟨sb, 10, none⟩ (.slice none 0 0)).setCell ⟨sb, 11, none⟩ (.int .i64 0)) B 0 (M + 1) lb3 sb ⟨h', G5.sb, .slice none 0 0, [], 0⟩ L' all' []) := by
        intro w7 hx
        obtain ⟨⟨ρ', G', av', a1, a2, a3, a4, a5, a6⟩, a7⟩ := hx
        refine ⟨(cell_of (j := 9) a2.blk rfl).1, (cell_of (j := 9) (u := .int .i64 (L.clock : Int)) a2.blk rfl).2, (cell_of (j := 10) a2.blk rfl).1, (cell_of (j := 10) (u := hb.tv) a2.blk rfl).2, (cell_of (j := 11) a2.blk rfl).1, (cell_of (j := 11) (u := .int .i64 (hb.tk : Int)) a2.blk rfl).2, LO.app nowT, all ++ [⟨(all.length : Int), (LO.clock : Int), nowT⟩], ?_⟩
        have hB7 := hB6.trans a7
        obtain ⟨b1, b2, b3⟩ := ShM.set a1 a2 9 (.int .i64 ((L.clock + hb.tk : Nat) : Int))
        have e9 := shC_clock lb3 { hb with h := h', sb := G5.sb } { LO with clock := L.clock } av' (.slice none 0 0) hb.tk
        have hLL : ({ ({ LO with clock := L.clock } : Lg) with clock := ({ LO with clock := L.clock } : Lg).clock + hb.tk } : Lg) = LO := by
          show ({ LO with clock := L.clock + hb.tk } : Lg) = LO
          rw [← hcl]
        rw [hLL] at e9
        rw [e9] at b2
        rw [← shC_app _ _ _ nowT] at b2
        rw [Int.natCast_add] at b1 b2 b3
        have hB8 := hB7.trans (b3 (Nat.le_trans hB hB7.size))
        have htb : tb G'.dt = rcL (rs ++ [.lay nowT]) := by
          rw [a3, tb_append, hg5.2.1, rcL_snoc]
          exact congrArg _ (rc_rec (r := .lay nowT) (by show nowT.size ≤ 60; decide))
        have hok2 : ∀ x ∈ rs ++ [Rc.lay nowT], x.ok := fun x hx => by
          rcases List.mem_append.1 hx with q | q
          · exact hlf.ok x q
          · rw [List.mem_singleton.1 q]; show nowT.size ≤ 60; decide
        have hp2 : rcP (rs ++ [.lay nowT]) = ((LO.app nowT).clock, all ++ [⟨(all.length : Int), (LO.clock : Int), nowT⟩]) := by
          rw [rcP_snoc, app_clock, e, hcl]
          rfl
        exact ov_done b1 b2 (hiv2.app (by decide)) hB hB8 ⟨a4, htb, a5, a6⟩ hok2 (by rw [List.length_append, List.length_singleton]; omega) hp2 (htl2.mono (by simp) (by unfold Lg.app Lg.more; split <;> rfl) (by unfold Lg.app Lg.more; split <;> rfl) (by unfold Lg.app Lg.more; split <;> rfl))
      have htI : (0 : Int) < (hb.tk : Int) := by omega
      clear hm6 hl6 K6 q8 q10 CLt0
      go_upto_region 25 with (first
        | (go_at_call 18; refine CLt.out.mono ?_; rintro e' w7 ⟨rfl, hx7⟩; obtain ⟨g9, i9, g10, i10, g11, i11, L7, all7, hs7⟩ := FN.out w7 hx7; have HS7 := hide hs7; clear hx7 hs7))
      go_region
      all_goals (
        go_wp2_with fail
        go_end0
        exact ⟨rfl, _, _, _, _, HS7.out.drew hB⟩)
end Go.Proofs.YtkncboinfcnklabGreatDoor.Kq
