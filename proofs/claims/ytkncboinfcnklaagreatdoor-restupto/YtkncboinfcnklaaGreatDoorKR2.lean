import Derived.Test.YtkncboinfcnklaaGreatDoorKZ
namespace Go.Proofs.YtkncboinfcnklaaGreatDoor.Kp
open Go.RowKit Go.Deep Go.Shelf Go.Proofs.YtkncboinfcnklaaGreatDoor.Mth

set_option maxRecDepth 100000 in
set_option maxHeartbeats 8000000 in
theorem lawR_any (w : World) (ht : TabB w.heap.size w) (ht' : Tab10B w.heap.size w) (c0 c1 c2 c3 c4 c5 : Int) (h0 : I64 c0) (h1 : I64 c1) (h2 : I64 c2) (h3 : I64 c3) (h4 : I64 c4) (h5 : I64 c5) {v : Value} {l : List Mv} (hv : RdV w.heap.size w v l) (hok : ∀ m ∈ l, OkM m) (hl : l.length ≤ 210000) :
    Calls Tryz.prog 11 #[caV c0 c1 c2 c3 c4 c5, v] w fun e w' => e = .returned (.bool true) ∧ Below w.heap.size w w' := by
  have hb1 := below_allocG w (caO c0 c1 c2 c3 c4 c5)
  have hk1 := new_blk w #[.int .i64 c0, .int .i64 c1, .int .i64 c2, .int .i64 c3, .int .i64 c4, .int .i64 c5] 49
  obtain ⟨w1, hw1⟩ : ∃ w1, w1 = w.alloc (caO c0 c1 c2 c3 c4 c5) := ⟨_, rfl⟩
  rw [← hw1] at hb1 hk1
  obtain ⟨nb, hnb⟩ : ∃ nb, nb = w.heap.size := ⟨_, rfl⟩
  rw [← hnb] at hk1
  have CP := hide (played_any w1 w.heap.size hb1.size (ht.next hb1) (ht'.next hb1) c0 c1 c2 c3 c4 c5 h0 h1 h2 h3 h4 h5 (hv.below hb1) hok hl)
  have HT1 := hide (ht.next hb1)
  obtain ⟨a0, _⟩ := cell_of (j := 0) (u := .int .i64 c0) hk1 rfl
  obtain ⟨a1, _⟩ := cell_of (j := 1) (u := .int .i64 c1) hk1 rfl
  obtain ⟨a2, _⟩ := cell_of (j := 2) (u := .int .i64 c2) hk1 rfl
  obtain ⟨a3, _⟩ := cell_of (j := 3) (u := .int .i64 c3) hk1 rfl
  obtain ⟨a4, _⟩ := cell_of (j := 4) (u := .int .i64 c4) hk1 rfl
  obtain ⟨a5, _⟩ := cell_of (j := 5) (u := .int .i64 c5) hk1 rfl
  have HW1 := hide hw1
  have HB1 := hide hb1
  have HNB := hide hnb
  clear hb1 hk1 hw1 ht ht' hv hok h0 h1 h2 h3 h4 h5
  go_enter Tryz.func11, Tryz.ntmps11
  go_upto_region 1 with fail
  rw [← HW1.out, ← HNB.out]
  clear hnb
  go_upto_region 4 with (first
    | (go_at_call 19; refine CP.out.mono ?_; rintro e w2 ⟨sb, rfl, hp2⟩; have HP2 := hide hp2; clear hp2))
  obtain ⟨lb, hb, L2, all, tls, N, M, hN2, hM2, hx2⟩ := HP2.out
  have hM4 : M ≤ 210000 := by omega
  obtain ⟨f, hf2⟩ : ∃ f, f = L2.fan := ⟨_, rfl⟩
  obtain ⟨nw, hnw2⟩ : ∃ nw, nw = L2.wks.length := ⟨_, rfl⟩
  obtain ⟨n, hn2⟩ : ∃ n, n = all.length := ⟨_, rfl⟩
  obtain ⟨K, hK⟩ : ∃ K, K = (n + 2) * (f + 2) * 6 := ⟨_, rfl⟩
  have hbd : n ≤ M ∧ 2 ≤ f ∧ f ≤ 4 ∧ 0 < nw ∧ nw ≤ 4 ∧ mu L2 ≤ K := by
    obtain ⟨⟨ρ, G, av, tv, hs⟩, _⟩ := hx2
    have h1 := hs.bud
    have h2 := hs.inv.cfg
    have h3 := hs.log.x.k.few
    have h4 := hs.inv.muLe
    rw [← hn2, ← hf2, ← hK] at h4
    omega
  obtain ⟨BB, hBB⟩ : ∃ BB, BB = w.heap.size := ⟨_, rfl⟩
  rw [← hBB] at hx2
  have HB1' : Hid (BB ≤ w1.heap.size) := by rw [hBB]; exact HB1.out.size
  have HT1' : Hid (TabB BB w1) := by rw [hBB]; exact HT1.out
  have RS0 : Hid (Rs w1 w2 BB N M lb sb hb f nw all tls (fun L => pends L.wks = 0 ∨ mu L + 0 ≤ K)) := ⟨L2, hx2, hf2.symm, hnw2.symm, Or.inr (by omega)⟩
  have CST : Hid (∀ W P q, Rs w1 W BB N M lb sb hb f nw all tls P → q < nw → Calls Tryz.prog 23 #[ptrV lb, .int .i64 (q : Int)] W fun e w' => ∃ r, e = .returned (.tuple #[.int .i64 r, .int .i64 0]) ∧ Rs w1 w' BB N M lb sb hb f nw all tls (fun L' => ∃ L, Inv L all ∧ L.wks.length = nw ∧ P L ∧ StepR L q r L')) := fun W P q h hq => rs_step HB1'.out HT1'.out h hq (by omega)
  have HBB := hide hBB
  have hKb : K ≤ 8000000 := by
    rw [hK]
    have h1 : (n + 2) * (f + 2) ≤ 210002 * 6 := Nat.mul_le_mul (by omega) (by omega)
    omega
  have hK1 : (((n : Int) + 2) * ((f : Int) + 2)) * 6 = (K : Int) := by rw [hK]; push_cast; rfl
  have hm1 : IntKind.i64.wrap ((n : Int) + 2) = (n : Int) + 2 := by rw [IntKind.wrap_i64]; omega
  have hm2 : IntKind.i64.wrap ((f : Int) + 2) = (f : Int) + 2 := by rw [IntKind.wrap_i64]; omega
  have hm3 : IntKind.i64.wrap (((n : Int) + 2) * ((f : Int) + 2)) = ((n : Int) + 2) * ((f : Int) + 2) := by
    rw [IntKind.wrap_i64]
    omega
  have hm4 : IntKind.i64.wrap (((n : Int) + 2) * ((f : Int) + 2) * 6) = (K : Int) := by
    rw [hK1, IntKind.wrap_i64]
    omega
  have HK := hide hK
  clear hx2 HP2 a0 a1 a2 a3 a4 a5 hBB hN2 hM2 hl CP HT1 hf2 hnw2 hK
  have HN := hide hn2
  clear hn2
  go_wp2_with fail
  go_loopw [6] (fun iv wr => ∃ i : Nat, i ≤ K ∧ iv = .int .i64 (i : Int) ∧ Rs w1 wr BB N M lb sb hb f nw all tls (fun L => pends L.wks = 0 ∨ mu L + i ≤ K)) (fun iv _ => K - (intOf iv).toNat)
  case atStart => exact ⟨0, Nat.zero_le _, rfl, RS0.out⟩
  case round =>
    obtain ⟨i, hiK, rfl, hR⟩ := hrel
    obtain ⟨r0, r3, r5, va, vc, r8⟩ := hR.cells
    rw [← HN.out] at r8
    have r3' := cell_regrown r3
    have r8' := cell_regrown r8
    have HR := hide hR
    clear hR r0 r3 r5 r8
    by_cases hlt : i < K
    · have hiI : (i : Int) < (K : Int) := by omega
      go_upto_region 5 with fail
      refine wp_region_quiet_below (by kernel_rfl) (by kernel_rfl) ?_
      repeat (go_big_quiet_step (fail))
      refine wpQuiet_nil ?_
      intro _ hw'
      obtain ⟨⟨dq, osq⟩, hw''⟩ := hw'
      subst hw''
      have HR2 := hide (HR.out.below HB1'.out (below_regrown wr dq osq))
      clear r3' r8' HR
      generalize Sort.grow (redrawn wr dq) osq = w4 at *
      go_wp2_with fail
      go_loopw [7] (fun qv wx => ∃ q : Nat, q ≤ nw ∧ qv = .int .i64 (q : Int) ∧ Rs w1 wx BB N M lb sb hb f nw all tls (Turn K i q)) (fun qv _ => nw - (intOf qv).toNat)
      case atStart => exact ⟨0, Nat.zero_le _, rfl, HR2.out.imp (fun L _ _ _ hp => Turn.start hp)⟩
      case round =>
        obtain ⟨q, hqn, rfl, hR⟩ := hrel
        obtain ⟨r0, r3, r5, va2, vc2, r8⟩ := hR.cells
        clear r3 r8
        by_cases hql : q < nw
        · have CS := hide (CST.out wr _ q hR hql)
          have hqI : (q : Int) < (nw : Int) := by omega
          clear hR
          go_wp2_with (first | (go_at_call 23; refine CS.out.mono ?_; rintro e w5 ⟨r, rfl, hR5⟩; have HR5 := hide (hR5.imp (Q := Turn K i (q + 1)) (fun L' _ _ _ ⟨L, hi, hl, hT, hs⟩ => Turn.next hi hT (by omega) hs)); clear hR5))
          go_roundw
          case rel => exact ⟨q + 1, by omega, by go_num, HR5.out⟩
          case measure => simp [intOf]; omega
        · obtain rfl : q = nw := by omega
          have HR5 := hide (hR.imp (Q := fun L => pends L.wks = 0 ∨ mu L + (i + 1) ≤ K) (fun L _ _ hw' hT => Turn.done (by rw [hw']; exact hT) (by omega)))
          clear hR
          go_wp2_with fail
          go_roundw
          case rel => exact ⟨i + 1, by omega, by go_num, HR5.out⟩
          case measure => simp [intOf]; omega
    · obtain rfl : i = K := by omega
      have HR1 := hide (HR.out.imp (Q := fun L => pends L.wks = 0) (fun L hi _ _ hp => by
        rcases hp with q | q
        · exact q
        · exact hi.mu_zero (by omega)))
      clear HR
      go_upto_region 5 with fail
      refine wp_region_quiet_below (by kernel_rfl) (by kernel_rfl) ?_
      repeat (go_big_quiet_step (fail))
      refine wpQuiet_nil ?_
      intro _ hw'
      obtain ⟨⟨dq, osq⟩, hw''⟩ := hw'
      subst hw''
      have HR2 := hide (HR1.out.below HB1'.out (below_regrown wr dq osq))
      clear r3' r8' HR1
      generalize Sort.grow (redrawn wr dq) osq = w4 at *
      have CPE := hide (rs_pend HR2.out)
      obtain ⟨r0, _, _, _, _, _⟩ := HR2.out.cells
      go_upto_region 14 with (first | (go_at_call 24; refine CPE.out.mono ?_; rintro e w5 ⟨rfl, hb5⟩; have HR5 := hide (HR2.out.below HB1'.out hb5); clear hb5))
      clear r0
      obtain ⟨r0, _, _, _, _, _⟩ := HR5.out.cells
      have CQU := hide (rs_quiet HB1'.out HT1'.out HR5.out hbd.2.2.2.1 (by omega))
      go_upto_region 15 with (first | (go_at_call 23; refine CQU.out.mono ?_; rintro e w6 ⟨rfl, hR6⟩; have HR6 := hide hR6; clear hR6))
      clear r0
      obtain ⟨r0, _, _, _, _, _⟩ := HR6.out.cells
      have CLV := hide (rs_levels HR6.out (by omega))
      go_upto_region 16 with (first | (go_at_call 25; refine CLV.out.mono ?_; rintro e w7 ⟨rb, rfl, hb7, hl7⟩; have HR7 := hide (HR6.out.below HB1'.out hb7); have HL7 := hide hl7; clear hb7 hl7))
      clear r0
      go_wp2_with fail
      go_loopw [14] (fun iv wx => ∃ i : Nat, i ≤ 5 ∧ iv = .int .i64 (i : Int) ∧ Below w7.heap.size w7 wx) (fun iv _ => 5 - (intOf iv).toNat)
      case atStart => exact ⟨0, Nat.zero_le _, rfl, Below.refl _ _⟩
      case round =>
        obtain ⟨i, hi5, rfl, hbx⟩ := hrel
        by_cases hlt5 : i < 5
        · obtain ⟨xa, xc, xn, hxf, hxc, hxm, hxl⟩ := HL7.out i hlt5
          have hxl2 := (hbx.cell (p := ⟨rb, i, none⟩) (World.block_lt_of_cell? _ _ hxl)).trans hxl
          obtain ⟨_, r3, _, _, _, _⟩ := (HR7.out.below HB1'.out hbx).cells
          have x' := cell_regrown hxl2
          have r3' := cell_regrown r3
          have HBX := hide hbx
          have hiI : (i : Int) < 5 := by omega
          have hfI : ¬ ((f : Int) ≤ (xn : Int)) := by omega
          unfold maxLen at hxm
          clear hxl hxl2 r3 hbx
          go_upto_region 21 with fail
          refine wp_region_quiet_below (by kernel_rfl) (by kernel_rfl) ?_
          repeat (go_big_quiet_step (fail))
          refine wpQuiet_nil ?_
          intro _ hw'
          obtain ⟨⟨dq, osq⟩, hw''⟩ := hw'
          subst hw''
          have HB8 := hide (HBX.out.trans ((below_regrown wr dq osq).mono HBX.out.size))
          clear x' r3' HBX
          generalize Sort.grow (redrawn wr dq) osq = w8 at *
          go_wp2_with fail
          go_roundw
          case rel => exact ⟨i + 1, by omega, by go_num, HB8.out⟩
          case measure => simp [intOf]; omega
        · obtain rfl : i = 5 := by omega
          have HR8 := hide (HR7.out.below HB1'.out hbx)
          clear hbx
          have CF := hide (rs_found HB1'.out HT1'.out HR8.out 0 1000000000000 (by omega))
          go_upto_region 24 with (first | (go_at_call 20; refine CF.out.mono ?_; rintro e w9 ⟨rfl, hb9⟩; have HR9 := hide (HR8.out.below HB1'.out hb9); clear hb9))
          obtain ⟨r0, _, _, _, _, _⟩ := HR9.out.cells
          have CAP := hide (rs_append HB1'.out HT1'.out HR9.out ⟨#[97, 98]⟩ (by decide) (by omega))
          go_upto_region 25 with (first | (go_at_call 26; refine CAP.out.mono ?_; rintro e wz ⟨rfl, hbz, za, zc, z8⟩; have HBZ := hide hbz; clear hbz))
          clear r0
          go_wp2_with fail
          go_ret
          refine ⟨rfl, HB1.out.trans ?_⟩
          rw [← HBB.out]
          exact HBZ.out
end Go.Proofs.YtkncboinfcnklaaGreatDoor.Kp
