import Derived.Test.YtkncboinfcnklaaGreatDoorKJ
import Derived.Test.YtkncboinfcnklaaGreatDoorK8
namespace Go.Proofs.YtkncboinfcnklaaGreatDoor.Kp
open Go.RowKit Go.Deep Go.Shelf Go.Proofs.YtkncboinfcnklaaGreatDoor.Mth

/-- Why an entry is passed by, or is not. -/
theorem gq_cases (L : Lg) (x : ByteArray) (lo hi : Int) (e : Ent) (hv : Bool) (hh : memD x (wd e.text) = hv) :
    (hv = false ∧ gq L x lo hi e = false) ∨ (hv = true ∧ e.time < lo ∧ gq L x lo hi e = false) ∨ (hv = true ∧ ¬ e.time < lo ∧ hi < e.time ∧ gq L x lo hi e = false) ∨ (hv = true ∧ ¬ e.time < lo ∧ ¬ hi < e.time ∧ (L.keep : Int) < (L.clock : Int) - e.time ∧ gq L x lo hi e = false) ∨ (hv = true ∧ ¬ e.time < lo ∧ ¬ hi < e.time ∧ ¬ (L.keep : Int) < (L.clock : Int) - e.time ∧ gq L x lo hi e = true) := by
  have hg : gq L x lo hi e = (hv && (decide (max lo ((L.clock : Int) - (L.keep : Int)) ≤ e.time) && decide (e.time ≤ hi))) := by unfold gq yng; rw [hh]
  rw [hg]
  cases hv
  · exact Or.inl ⟨rfl, rfl⟩
  · right
    by_cases h1 : e.time < lo
    · left; exact ⟨rfl, h1, by simp; omega⟩
    · right
      by_cases h2 : hi < e.time
      · left; exact ⟨rfl, h1, h2, by simp; omega⟩
      · right
        by_cases h3 : (L.keep : Int) < (L.clock : Int) - e.time
        · left; exact ⟨rfl, h1, h2, h3, by simp; omega⟩
        · right; exact ⟨rfl, h1, h2, h3, by simp; omega⟩

theorem tkn_le (f : Ent → Bool) (all : List Ent) (t : Nat) : tkn f all 0 t ≤ t := by
  unfold tkn
  refine Nat.le_trans (List.length_filter_le _ _) ?_
  simp
  omega
set_option maxRecDepth 100000 in
set_option maxHeartbeats 8000000 in
theorem found_any {w : World} {ρ : Nat → Nat} {B N M lb sb hb : Nat} {G : Gh} {L : Lg} {all : List Ent} {tls : List Fo} {av tv : Value} (h : Sh w ρ B N M lb sb hb G L all tls av tv) (hB : B ≤ w.heap.size) (ht : TabB B w) (lo hi : Int) (hM : M ≤ 400000) :
    Calls Tryz.prog 20 #[ptrV sb, .int .i64 lo, .int .i64 hi] w fun e w' => e = .returned (.bool true) ∧ Below w.heap.size w w' := by
  have hbd := h.bud
  have hcf := h.inv.cfg
  have hclk := h.inv.clk
  have hb1 := below_allocG w (Obj.cells #[.string ⟨#[97]⟩, .string ⟨#[98]⟩, .string ⟨#[97, 98]⟩, .string ⟨#[100, 105, 115, 107]⟩, .string ⟨#[49]⟩, .string ⟨#[120, 57]⟩] 9)
  have hwat := fun i hi => word_at w i hi
  have CW := hide (words_any w)
  obtain ⟨w1, hw1⟩ : ∃ w1, w1 = w.alloc (Obj.cells #[.string ⟨#[97]⟩, .string ⟨#[98]⟩, .string ⟨#[97, 98]⟩, .string ⟨#[100, 105, 115, 107]⟩, .string ⟨#[49]⟩, .string ⟨#[120, 57]⟩] 9) := ⟨_, rfl⟩
  rw [← hw1] at hb1 hwat CW
  obtain ⟨nw, hnw⟩ : ∃ nw, nw = w.heap.size := ⟨_, rfl⟩
  rw [← hnw] at hwat CW
  have hnlt : nw < w1.heap.size := World.block_lt_of_cell? _ _ (hwat 0 (by omega))
  have h1 := h.below hb1
  have hinv := h.inv
  have CQ : Hid (∀ W x, Below w1.heap.size w1 W → x ∈ wds → Calls Tryz.prog 50 #[ptrV lb, .string x, .int .i64 lo, .int .i64 hi] W fun e w' => ∃ v, e = .returned (.tuple #[v, .int .i64 (qOpn x lo hi (segs L.lev) : Int), .int .i64 0]) ∧ CurE W w' v (tld (gq L x lo hi) all 0 (all.length + 1))) := by
    intro W x hb' hx
    have hs := wds_wd hx
    have hBW : Below B w W := (belowB hb1 hB).trans (belowB hb' (Nat.le_trans hB hb1.size))
    have := query_yes (h1.below hb').log (ht.next hBW).now x (by unfold maxLen; omega) (wds_isWd hx) lo hi hclk hcf.2.2.2.1.2 (fun k hk => by have := h.inv.lev k hk; omega) (by have := h.inv.stoLen; omega) (fun es hes => h.inv.tmsOf (h.inv.segSub hes)) (h.inv.tmsOf h.inv.memSub)
    rwa [h.inv.query] at this
  have RD : Hid (∀ W, Below w1.heap.size w1 W → W.cell? ⟨sb, 0, none⟩ = some (ptrV lb) ∧ W.cell? ⟨sb, 8, none⟩ = some av ∧ W.cell? ⟨sb, 9, none⟩ = some (.int .i64 (L.clock : Int)) ∧ W.cell? ⟨sb, 6, none⟩ = some (.int .i64 (L.keep : Int)) ∧ W.cell? ⟨sb, 3, none⟩ = some (.int .i64 (L.fan : Int)) ∧ W.cell? ⟨sb, 4, none⟩ = some (.int .i64 (L.back : Int)) ∧ W.ownsRow B 66 3 av all.length (all.flatMap eC) ∧ ∀ i, i < 6 → W.cell? ⟨nw, i, none⟩ = some (.string (wds.getD i ⟨#[]⟩))) := by
    intro W hb'
    have h2 := h1.below hb'
    exact ⟨(h2.cell (j := 0) rfl).1, (h2.cell (j := 8) rfl).1, (h2.cell (j := 9) rfl).1, (h2.cell (j := 6) rfl).1, (h2.cell (j := 3) rfl).1, (h2.cell (j := 4) rfl).1, h2.mem.row, fun i hi => (hb'.cell (p := ⟨nw, i, none⟩) hnlt).trans (hwat i hi)⟩
  have HB1 := hide hb1
  have HW1 := hide hw1
  have HNW := hide hnw
  have hbd0 : ∀ e ∈ all, 0 ≤ e.time ∧ e.time ≤ (L.clock : Int) ∧ e.text.size ≤ 60 := fun e he => hinv.ok.bd e he
  have HBD := hide hbd0
  have HOP : Hid (∀ x, qOpn x lo hi (segs L.lev) ≤ all.length) := fun x => hinv.opn x lo hi
  obtain ⟨va, vc, hva, hvc, hvm⟩ := own_slice h.mem.row
  subst hva
  unfold maxLen at hvm
  have hkp := hcf.2.2.2.1.2
  have hfn := hcf.2.1.2
  have hbk := hcf.2.2.1
  clear h h1 hb1 hw1 hnw hwat ht hinv hbd0 hcf
  go_enter Tryz.func20, Tryz.ntmps20
  go_wp2_with (first | (go_at_call 49; refine CW.out.mono ?_; rintro e w' ⟨rfl, hw'⟩; rw [hw']; clear hw' w'))
  go_loopw [8] (fun v wr => ∃ i : Nat, i ≤ 6 ∧ v = .int .i64 (i : Int) ∧ Below w1.heap.size w1 wr) (fun v _ => 6 - (intOf v).toNat)
  case atStart => exact ⟨0, by omega, rfl, Below.refl _ _⟩
  case round =>
    obtain ⟨i, hi6, rfl, hbr⟩ := hrel
    by_cases hlt : i < 6
    · obtain ⟨r0, r8, r9, r6, r3, r4, ra, rw⟩ := RD.out wr hbr
      have rwi := rw i hlt
      have hx : wds.getD i ⟨#[]⟩ ∈ wds := by
        rw [← List.getElem_eq_getD (h := by simpa [wds] using hlt)]
        exact List.getElem_mem _
      have hxs := wds_wd hx
      have HX := hide hx
      have HBR := hide hbr
      have hop := HOP.out (wds.getD i ⟨#[]⟩)
      have hil : (i : Int) < 6 := by omega
      clear hx hbr rw
      generalize hxx : wds.getD i ⟨#[]⟩ = x at *
      have HXX := hide hxx
      clear hxx
      go_upto_region 5 with fail
      go_region_held3 (fun w' => w'.cell? ⟨sb, 0, none⟩ = some (ptrV lb) ∧ w'.cell? ⟨nw, i, none⟩ = some (.string x)) (first | exact ⟨r0, rwi⟩ | exact ⟨m0, m1⟩ | fail)
        (first | (go_at_call 50; refine (CQ.out _ x (HBR.out.trans ((drewB wr).mono HBR.out.size)) HX.out).mono ?_; rintro e w3 ⟨v3, rfl, hc3⟩; have hb3 : Below w1.heap.size w1 w3 := (HBR.out.trans ((drewB wr).mono HBR.out.size)).trans (hc3.1.mono (HBR.out.trans ((drewB wr).mono HBR.out.size)).size); have m0 := (RD.out w3 hb3).1; have m1 := (RD.out w3 hb3).2.2.2.2.2.2.2 i hlt; rw [HXX.out] at m1; have HB3 := hide hb3; have HO3 := hide hc3.2; obtain ⟨a3, c3, rfl, hc3c, hc3m⟩ := own_slice hc3.2; clear hc3 hb3))
      have HTL : Hid (∀ j, j < all.length → gq L x lo hi (all.getD j e0) = true → tkn (gq L x lo hi) all 0 j < (tld (gq L x lo hi) all 0 (all.length + 1)).length ∧ (tld (gq L x lo hi) all 0 (all.length + 1)).getD (tkn (gq L x lo hi) all 0 j) e0 = all.getD j e0) := fun j hj hg => tld_at (Nat.zero_le _) hj hg (by have := tkn_le (gq L x lo hi) all j; omega)
      have hlen : (tld (gq L x lo hi) all 0 (all.length + 1)).length = tkn (gq L x lo hi) all 0 all.length := by
        rw [tld_len, Nat.min_eq_right (by have := tkn_le (gq L x lo hi) all all.length; omega)]
      have HLEN := hide hlen
      have htn := tkn_le (gq L x lo hi) all all.length
      rw [← hlen] at htn
      clear hlen r0 r8 r9 r6 r3 r4 ra rwi m0 m1
      generalize tld (gq L x lo hi) all 0 (all.length + 1) = told at *
      generalize qOpn x lo hi (segs L.lev) = on at *
      unfold maxLen at hc3m
      go_wp2_with fail
      go_loopw [12, 13] (fun kv jv wr => ∃ j : Nat, j ≤ all.length ∧ jv = .int .i64 (j : Int) ∧ kv = .int .i64 (tkn (gq L x lo hi) all 0 j : Int) ∧ Below w3.heap.size w3 wr) (fun _ jv _ => all.length - (intOf jv).toNat)
      case atStart => exact ⟨0, Nat.zero_le _, rfl, by rw [tkn_start]; rfl, Below.refl _ _⟩
      case round =>
        obtain ⟨j, hjn, rfl, rfl, hbr2⟩ := hrel
        have HB4 := hide (HB3.out.trans (hbr2.mono HB3.out.size))
        have HB34 := hide hbr2
        obtain ⟨r0, r8, r9, r6, r3, r4, ra, rw⟩ := RD.out _ HB4.out
        clear hbr2 rw
        have hkl := tkn_le (gq L x lo hi) all j
        by_cases hjl : j < all.length
        · obtain ⟨gv, rfl⟩ := own_some ra (by omega)
          obtain ⟨x0, x1, x2⟩ := own_en ra rfl (k := j) hjl
          have hmem : all.getD j e0 ∈ all := by rw [← List.getElem_eq_getD (h := hjl)]; exact List.getElem_mem hjl
          obtain ⟨t0, t1, t2⟩ := HBD.out _ hmem
          have hnx := tkn_next (f := gq L x lo hi) (Nat.zero_le j) hjl
          have htl := HTL.out j hjl
          generalize hE : all.getD j e0 = ee at *
          obtain ⟨es, et, ex⟩ := ee
          simp only at x0 x1 x2 t0 t1 t2
          have hbx := below_allocG wr (Obj.cells #[.int .i64 es, .int .i64 et, .string ex] 66)
          have hkx := new_blk wr #[.int .i64 es, .int .i64 et, .string ex] 66
          obtain ⟨w5, hw5⟩ : ∃ w5, w5 = wr.alloc (Obj.cells #[.int .i64 es, .int .i64 et, .string ex] 66) := ⟨_, rfl⟩
          obtain ⟨nx, hnx5⟩ : ∃ nx, nx = wr.heap.size := ⟨_, rfl⟩
          rw [← hw5] at hbx hkx
          rw [← hnx5] at hkx
          have HB5 := hide (HB34.out.trans (hbx.mono HB34.out.size))
          have BX5 := hide hkx
          have HW5 := hide hw5
          have HNX5 := hide hnx5
          have hjI : (j : Int) < (all.length : Int) := by omega
          clear hbx hkx hw5 hnx5 hmem hE
          have CH : Hid (∀ d os, Calls Tryz.prog 21 #[.string ex, .string x] (Sort.grow (redrawn w5 d) os) fun e w'' => e = .returned (.bool (memD x (wd ex))) ∧ ∃ p : Regrown, w'' = Sort.grow (redrawn w5 p.d) p.os) := fun d os => Calls.regrown_of ((has_any ex x (by omega) (by omega) hxs.1 _).mono fun e w' q => ⟨q.1, by rw [q.2]; exact Below.refl _ _⟩)
          have hgc := gq_cases L x lo hi ⟨es, et, ex⟩ _ rfl
          simp only at hgc
          generalize memD x (wd ex) = hv at *
          have hw1w5 : Below w1.heap.size w1 w5 := HB3.out.trans (HB5.out.mono HB3.out.size)
          have hwi := (RD.out w5 hw1w5).2.2.2.2.2.2.2 i hlt
          rw [HXX.out] at hwi
          have q2 := cell_regrown (cell_of (j := 2) (u := .string ex) BX5.out rfl).1
          have qw := cell_regrown hwi
          clear hw1w5 hwi ra r0 r3 r4 r6 r9
          have HX0 := hide (⟨x0, x1, x2⟩ : _ ∧ _ ∧ _)
          go_upto_region 11 with fail
          rw [← HW5.out, ← HNX5.out]
          clear x0 x1 x2 r8 HX0
          refine wp_region_quiet_below (by kernel_rfl) (by kernel_rfl) ?_
          repeat (go_big_quiet_step (first | (go_at_call 21; exact CH.out _ _)))
          refine wpQuiet_nil ?_
          intro _ hw'
          obtain ⟨⟨dq6, osq6⟩, hw''⟩ := hw'
          subst hw''
          have HB6 := hide (HB5.out.trans ((below_regrown w5 dq6 osq6).mono HB5.out.size))
          have BX6 := hide ((below_regrown w5 dq6 osq6).block nx (Array.getElem?_eq_some_iff.1 BX5.out).1 |>.trans BX5.out)
          clear q2 qw CH
          generalize Sort.grow (redrawn w5 dq6) osq6 = w6 at *
          obtain ⟨r0, r8, r9, r6, r3, r4, ra, _⟩ := RD.out w6 (HB3.out.trans (HB6.out.mono HB3.out.size))
          have b0 := (cell_of (j := 0) (u := .int .i64 es) BX6.out rfl).1
          have b1 := (cell_of (j := 1) (u := .int .i64 et) BX6.out rfl).1
          have b2 := (cell_of (j := 2) (u := .string ex) BX6.out rfl).1
          have b1' := cell_regrown b1
          have r9' := cell_regrown r9
          have r6' := cell_regrown r6
          clear r0 r8 r9 r6 r3 r4 ra b0 b1 b2
          rcases hgc with ⟨rfl, hg⟩ | ⟨rfl, g1, hg⟩ | ⟨rfl, g1, g2, hg⟩ | ⟨rfl, g1, g2, g3, hg⟩ | ⟨rfl, g1, g2, g3, hg⟩
          · rw [hg, if_neg (by decide), Nat.add_zero] at hnx
            have HNX := hide hnx
            clear hnx htl HTL
            go_upto_region 12 with fail
            refine wp_region_quiet_below (by kernel_rfl) (by kernel_rfl) ?_
            repeat (go_big_quiet_step (fail))
            refine wpQuiet_nil ?_
            intro _ hw'
            obtain ⟨⟨dq7, osq7⟩, hw''⟩ := hw'
            subst hw''
            have HB7 := hide (HB6.out.trans ((below_regrown w6 dq7 osq7).mono HB6.out.size))
            have BX7 := hide ((below_regrown w6 dq7 osq7).block nx (Array.getElem?_eq_some_iff.1 BX6.out).1 |>.trans BX6.out)
            clear b1' r9' r6'
            generalize Sort.grow (redrawn w6 dq7) osq7 = w7 at *
            go_wp2_with fail
            go_roundw
            case rel => exact ⟨j + 1, by omega, by go_num, by rw [HNX.out]; rfl, HB7.out⟩
            case measure => simp [intOf]; omega
          · rw [hg, if_neg (by decide), Nat.add_zero] at hnx
            have HNX := hide hnx
            clear hnx htl HTL
            go_upto_region 12 with fail
            refine wp_region_quiet_below (by kernel_rfl) (by kernel_rfl) ?_
            repeat (go_big_quiet_step (fail))
            refine wpQuiet_nil ?_
            intro _ hw'
            obtain ⟨⟨dq7, osq7⟩, hw''⟩ := hw'
            subst hw''
            have HB7 := hide (HB6.out.trans ((below_regrown w6 dq7 osq7).mono HB6.out.size))
            have BX7 := hide ((below_regrown w6 dq7 osq7).block nx (Array.getElem?_eq_some_iff.1 BX6.out).1 |>.trans BX6.out)
            clear b1' r9' r6'
            generalize Sort.grow (redrawn w6 dq7) osq7 = w7 at *
            go_wp2_with fail
            go_roundw
            case rel => exact ⟨j + 1, by omega, by go_num, by rw [HNX.out]; rfl, HB7.out⟩
            case measure => simp [intOf]; omega
          · rw [hg, if_neg (by decide), Nat.add_zero] at hnx
            have HNX := hide hnx
            clear hnx htl HTL
            go_upto_region 12 with fail
            refine wp_region_quiet_below (by kernel_rfl) (by kernel_rfl) ?_
            repeat (go_big_quiet_step (fail))
            refine wpQuiet_nil ?_
            intro _ hw'
            obtain ⟨⟨dq7, osq7⟩, hw''⟩ := hw'
            subst hw''
            have HB7 := hide (HB6.out.trans ((below_regrown w6 dq7 osq7).mono HB6.out.size))
            have BX7 := hide ((below_regrown w6 dq7 osq7).block nx (Array.getElem?_eq_some_iff.1 BX6.out).1 |>.trans BX6.out)
            clear b1' r9' r6'
            generalize Sort.grow (redrawn w6 dq7) osq7 = w7 at *
            go_wp2_with fail
            go_roundw
            case rel => exact ⟨j + 1, by omega, by go_num, by rw [HNX.out]; rfl, HB7.out⟩
            case measure => simp [intOf]; omega
          · rw [hg, if_neg (by decide), Nat.add_zero] at hnx
            have HNX := hide hnx
            clear hnx htl HTL
            go_upto_region 12 with fail
            refine wp_region_quiet_below (by kernel_rfl) (by kernel_rfl) ?_
            repeat (go_big_quiet_step (fail))
            refine wpQuiet_nil ?_
            intro _ hw'
            obtain ⟨⟨dq7, osq7⟩, hw''⟩ := hw'
            subst hw''
            have HB7 := hide (HB6.out.trans ((below_regrown w6 dq7 osq7).mono HB6.out.size))
            have BX7 := hide ((below_regrown w6 dq7 osq7).block nx (Array.getElem?_eq_some_iff.1 BX6.out).1 |>.trans BX6.out)
            clear b1' r9' r6'
            generalize Sort.grow (redrawn w6 dq7) osq7 = w7 at *
            go_wp2_with fail
            go_roundw
            case rel => exact ⟨j + 1, by omega, by go_num, by rw [HNX.out]; rfl, HB7.out⟩
            case measure => simp [intOf]; omega
          · rw [hg, if_pos rfl] at hnx
            obtain ⟨k1, k2⟩ := htl hg
            have HNX := hide hnx
            clear hnx HTL
            go_upto_region 12 with fail
            refine wp_region_quiet_below (by kernel_rfl) (by kernel_rfl) ?_
            repeat (go_big_quiet_step (fail))
            refine wpQuiet_nil ?_
            intro _ hw'
            obtain ⟨⟨dq7, osq7⟩, hw''⟩ := hw'
            subst hw''
            have HB7 := hide (HB6.out.trans ((below_regrown w6 dq7 osq7).mono HB6.out.size))
            have BX7 := hide ((below_regrown w6 dq7 osq7).block nx (Array.getElem?_eq_some_iff.1 BX6.out).1 |>.trans BX6.out)
            clear b1' r9' r6'
            generalize Sort.grow (redrawn w6 dq7) osq7 = w7 at *
            have ho7 := own_same HO3.out (fun g hg => HB7.out.block g (own_block HO3.out hg).2.1)
            obtain ⟨g3', rfl⟩ := own_some ho7 (by omega)
            obtain ⟨z0, z1, z2⟩ := own_en ho7 rfl (k := tkn (gq L x lo hi) all 0 j) k1
            rw [k2] at z0 z1 z2
            simp only at z0 z1 z2
            have hkI : ¬ (told.length : Int) ≤ (tkn (gq L x lo hi) all 0 j : Int) := by omega
            clear k2 ho7
            generalize tkn (gq L x lo hi) all 0 j = kk at *
            have b0' := cell_regrown (cell_of (j := 0) (u := .int .i64 es) BX7.out rfl).1
            have b1' := cell_regrown (cell_of (j := 1) (u := .int .i64 et) BX7.out rfl).1
            have b2' := cell_regrown (cell_of (j := 2) (u := .string ex) BX7.out rfl).1
            have z0' := cell_regrown z0
            have z1' := cell_regrown z1
            have z2' := cell_regrown z2
            clear z0 z1 z2
            go_upto_region 13 with fail
            refine wp_region_quiet_below (by kernel_rfl) (by kernel_rfl) ?_
            repeat (go_big_quiet_step (fail))
            refine wpQuiet_nil ?_
            intro _ hw'
            obtain ⟨⟨dq8, osq8⟩, hw''⟩ := hw'
            subst hw''
            have HB8 := hide (HB7.out.trans ((below_regrown w7 dq8 osq8).mono HB7.out.size))
            have BX8 := hide ((below_regrown w7 dq8 osq8).block nx (Array.getElem?_eq_some_iff.1 BX7.out).1 |>.trans BX7.out)
            clear b0' b1' b2' z0' z1' z2'
            generalize Sort.grow (redrawn w7 dq8) osq8 = w8 at *
            go_wp2_with fail
            go_roundw
            case rel => exact ⟨j + 1, by omega, by go_num, by rw [HNX.out]; go_num, HB8.out⟩
            case measure => simp [intOf]; omega
        · obtain rfl : j = all.length := by omega
          rw [← HLEN.out]
          have r3' := cell_regrown r3
          have r4' := cell_regrown r4
          have r8' := cell_regrown r8
          have hI0 : ¬ (on : Int) < 0 := by omega
          have hI : ¬ (L.fan : Int) + (L.back : Int) + ((L.fan : Int) + 1) * 6 + (all.length : Int) < (on : Int) := by omega
          clear r0 r3 r4 r6 r9 ra HTL
          go_upto_region 16 with fail
          refine wp_region_quiet_below (by kernel_rfl) (by kernel_rfl) ?_
          repeat (go_big_quiet_step (fail))
          refine wpQuiet_nil ?_
          intro _ hw'
          obtain ⟨⟨dq9, osq9⟩, hw''⟩ := hw'
          subst hw''
          have HB9 := hide (HB4.out.trans ((below_regrown wr dq9 osq9).mono HB4.out.size))
          clear r3' r4' r8'
          generalize Sort.grow (redrawn wr dq9) osq9 = w9 at *
          go_wp2_with fail
          go_roundw
          case rel => exact ⟨i + 1, by omega, by go_num, HB9.out⟩
          case measure => simp [intOf]; omega
    · go_wp2_with fail
      go_ret
      exact ⟨rfl, HB1.out.trans (hbr.mono HB1.out.size)⟩
end Go.Proofs.YtkncboinfcnklaaGreatDoor.Kp
