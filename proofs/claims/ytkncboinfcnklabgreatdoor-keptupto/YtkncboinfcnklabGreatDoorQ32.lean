import Derived.Test.YtkncboinfcnklabGreatDoorQJ
import Derived.Test.YtkncboinfcnklabGreatDoorQ28
import Derived.Test.YtkncboinfcnklabGreatDoorQ31
namespace Go.Proofs.YtkncboinfcnklabGreatDoor.Kq
open Go.RowKit Go.Deep Go.Shelf Go.Proofs.YtkncboinfcnklabGreatDoor.Mth Go.Proofs.YtkncboinfcnklabGreatDoor.Kp

/-- Why an entry is passed by, or is not. -/
theorem gq_cases (L : Lg) (x : ByteArray) (lo hi : Int) (e : Ent) (hv : Bool) (hh : memD x (wd e.text) = hv) :
    (hv = false ∧ gq L x lo hi e = false) ∨ (hv = true ∧ e.time < lo ∧ gq L x lo hi e = false) ∨ (hv = true ∧ ¬ e.time < lo ∧ hi < e.time ∧ gq L x lo hi e = false) ∨ (hv = true ∧ ¬ e.time < lo ∧ ¬ hi < e.time ∧ (L.keep : Int) < (L.clock : Int) - e.time ∧ gq L x lo hi e = false) ∨ (hv = true ∧ ¬ e.time < lo ∧ ¬ hi < e.time ∧ ¬ (L.keep : Int) < (L.clock : Int) - e.time ∧ gq L x lo hi e = true) := by
  have hg : gq L x lo hi e = (hv && (decide (max lo ((L.clock : Int) - (L.keep : Int)) ≤ e.time) && decide (e.time ≤ hi))) := by unfold gq yng; rw [hh]
  rw [hg]
  cases hv
  · exact Or.inl ⟨rfl, rfl⟩
  · right
    by_cases h1 : e.time < lo
    · left; exact ⟨rfl, h1, by simp; omega⟩
    · right
      by_cases h2 : hi < e.time
      · left; exact ⟨rfl, h1, h2, by simp; omega⟩
      · right
        by_cases h3 : (L.keep : Int) < (L.clock : Int) - e.time
        · left; exact ⟨rfl, h1, h2, h3, by simp; omega⟩
        · right; exact ⟨rfl, h1, h2, h3, by simp; omega⟩

theorem tkn_le (f : Ent → Bool) (all : List Ent) (t : Nat) : tkn f all 0 t ≤ t := by
  unfold tkn
  refine Nat.le_trans (List.length_filter_le _ _) ?_
  simp
  omega
set_option maxRecDepth 100000 in
set_option maxHeartbeats 8000000 in
theorem found_any {w : World} {ρ : Nat → Nat} {B N M lb sb : Nat} {hb : Xt} {G : Gh} {L : Lg} {all : List Ent} {tls : List Fo} {av tv : Value} (h : Sh w ρ B N M lb sb hb G L all tls av tv) (hB : B ≤ w.heap.size) (ht : TabB B w) (lo hi : Int) (hM : M ≤ 400000) :
    Calls Tryz.prog 5 #[ptrV sb, .int .i64 lo, .int .i64 hi] w fun e w' => e = .returned (.bool true) ∧ Below w.heap.size w w' := by
  have hbd := h.bud
  have hcf := h.inv.cfg
  have hclk := h.inv.clk
  have hb1 := below_allocG w (Obj.cells #[.string ⟨#[97]⟩, .string ⟨#[98]⟩, .string ⟨#[97, 98]⟩, .string ⟨#[100, 105, 115, 107]⟩, .string ⟨#[49]⟩, .string ⟨#[120, 57]⟩] 9)
  have hwat := fun i hi => word_at w i hi
  have CW := hide (Kp.words_any w)
  obtain ⟨w1, hw1⟩ : ∃ w1, w1 = w.alloc (Obj.cells #[.string ⟨#[97]⟩, .string ⟨#[98]⟩, .string ⟨#[97, 98]⟩, .string ⟨#[100, 105, 115, 107]⟩, .string ⟨#[49]⟩, .string ⟨#[120, 57]⟩] 9) := ⟨_, rfl⟩
  rw [← hw1] at hb1 hwat CW
  obtain ⟨nw, hnw⟩ : ∃ nw, nw = w.heap.size := ⟨_, rfl⟩
  rw [← hnw] at hwat CW
  have hnlt : nw < w1.heap.size := World.block_lt_of_cell? _ _ (hwat 0 (by omega))
  have h1 := h.below hb1
  have hinv := h.inv
  have CQ : Hid (∀ W x, Below w1.heap.size w1 W → x ∈ wds → Calls Tryz.prog 12 #[ptrV lb, .string x, .int .i64 lo, .int .i64 hi] W fun e w' => ∃ v, e = .returned (.tuple #[v, .int .i64 (qOpn x lo hi (segs L.lev) : Int), .int .i64 0]) ∧ CurE W w' v (tld (gq L x lo hi) all 0 (all.length + 1))) := by
    intro W x hb' hx
    have hs := wds_wd hx
    have hBW : Below B w W := (belowB hb1 hB).trans (belowB hb' (Nat.le_trans hB hb1.size))
    have := query_yes (h1.below hb').log (ht.next hBW).now x (by unfold maxLen; omega) (wds_isWd hx) lo hi hclk hcf.2.2.2.1.2 (fun k hk => by have := h.inv.lev k hk; omega) (by have := h.inv.stoLen; omega) (fun es hes => h.inv.tmsOf (h.inv.segSub hes)) (h.inv.tmsOf h.inv.memSub)
    rwa [h.inv.query] at this
  have RD : Hid (∀ W, Below w1.heap.size w1 W → W.cell? ⟨sb, 0, none⟩ = some (ptrV lb) ∧ W.cell? ⟨sb, 8, none⟩ = some av ∧ W.cell? ⟨sb, 9, none⟩ = some (.int .i64 (L.clock : Int)) ∧ W.cell? ⟨sb, 6, none⟩ = some (.int .i64 (L.keep : Int)) ∧ W.cell? ⟨sb, 3, none⟩ = some (.int .i64 (L.fan : Int)) ∧ W.cell? ⟨sb, 4, none⟩ = some (.int .i64 (L.back : Int)) ∧ W.ownsRow B 49 3 av all.length (all.flatMap eC) ∧ ∀ i, i < 6 → W.cell? ⟨nw, i, none⟩ = some (.string (wds.getD i ⟨#[]⟩))) := by
    intro W hb'
    have h2 := h1.below hb'
    exact ⟨(h2.cell (j := 0) rfl).1, (h2.cell (j := 8) rfl).1, (h2.cell (j := 9) rfl).1, (h2.cell (j := 6) rfl).1, (h2.cell (j := 3) rfl).1, (h2.cell (j := 4) rfl).1, h2.mem.row, fun i hi => (hb'.cell (p := ⟨nw, i, none⟩) hnlt).trans (hwat i hi)⟩
  have HB1 := hide hb1
  have HW1 := hide hw1
  have HNW := hide hnw
  have hbd0 : ∀ e ∈ all, 0 ≤ e.time ∧ e.time ≤ (L.clock : Int) ∧ e.text.size ≤ 60 := fun e he => hinv.ok.bd e he
  have HBD := hide hbd0
  have HOP : Hid (∀ x, qOpn x lo hi (segs L.lev) ≤ all.length) := fun x => hinv.opn x lo hi
  obtain ⟨va, vc, hva, hvc, hvm⟩ := own_slice h.mem.row
  subst hva
  unfold maxLen at hvm
  have hkp := hcf.2.2.2.1.2
  have hfn := hcf.2.1.2
  have hbk := hcf.2.2.1
  clear h h1 hb1 hw1 hnw hwat ht hinv hbd0 hcf
  go_enter Tryz.func5, Tryz.ntmps5
  go_wp2_with (first | (go_at_call 11; refine CW.out.mono ?_; rintro e w' ⟨rfl, hw'⟩; rw [hw']; clear hw' w'))
  go_loopw [8] (fun v wr => ∃ i : Nat, i ≤ 6 ∧ v = .int .i64 (i : Int) ∧ Below w1.heap.size w1 wr) (fun v _ => 6 - (intOf v).toNat)
  case atStart => exact ⟨0, by omega, rfl, Below.refl _ _⟩
  case round =>
    obtain ⟨i, hi6, rfl, hbr⟩ := hrel
    by_cases hlt : i < 6
    · obtain ⟨r0, r8, r9, r6, r3, r4, ra, rw⟩ := RD.out wr hbr
      have rwi := rw i hlt
      have hx : wds.getD i ⟨#[]⟩ ∈ wds := by
        rw [← List.getElem_eq_getD (h := by simpa [wds] using hlt)]
        exact List.getElem_mem _
      have hxs := wds_wd hx
      have HX := hide hx
      have HBR := hide hbr
      have hop := HOP.out (wds.getD i ⟨#[]⟩)
      have hil : (i : Int) < 6 := by omega
      clear hx hbr rw
      generalize hxx : wds.getD i ⟨#[]⟩ = x at *
      have HXX := hide hxx
      clear hxx
      go_upto_region 5 with fail
      go_region_held3 (fun w' => w'.cell? ⟨sb, 0, none⟩ = some (ptrV lb) ∧ w'.cell? ⟨nw, i, none⟩ = some (.string x)) (first | exact ⟨r0, rwi⟩ | exact ⟨m0, m1⟩ | fail)
        (first | (go_at_call 12; refine (CQ.out _ x (HBR.out.trans ((drewB wr).mono HBR.out.size)) HX.out).mono ?_; rintro e w3 ⟨v3, rfl, hc3⟩; have hb3 : Below w1.heap.size w1 w3 := (HBR.out.trans ((drewB wr).mono HBR.out.size)).trans (hc3.1.mono (HBR.out.trans ((drewB wr).mono HBR.out.size)).size); have m0 := (RD.out w3 hb3).1; have m1 := (RD.out w3 hb3).2.2.2.2.2.2.2 i hlt; rw [HXX.out] at m1; have HB3 := hide hb3; have HO3 := hide hc3.2; obtain ⟨a3, c3, rfl, hc3c, hc3m⟩ := own_slice hc3.2; clear hc3 hb3))
      have HTL : Hid (∀ j, j < all.length → gq L x lo hi (all.getD j e0) = true → tkn (gq L x lo hi) all 0 j < (tld (gq L x lo hi) all 0 (all.length + 1)).length ∧ (tld (gq L x lo hi) all 0 (all.length + 1)).getD (tkn (gq L x lo hi) all 0 j) e0 = all.getD j e0) := fun j hj hg => tld_at (Nat.zero_le _) hj hg (by have := tkn_le (gq L x lo hi) all j; omega)
      have hlen : (tld (gq L x lo hi) all 0 (all.length + 1)).length = tkn (gq L x lo hi) all 0 all.length := by
        rw [tld_len, Nat.min_eq_right (by have := tkn_le (gq L x lo hi) all all.length; omega)]
      have HLEN := hide hlen
      have htn := tkn_le (gq L x lo hi) all all.length
      rw [← hlen] at htn
      clear hlen r0 r8 r9 r6 r3 r4 ra rwi m0 m1
      generalize tld (gq L x lo hi) all 0 (all.length + 1) = told at *
      generalize qOpn x lo hi (segs L.lev) = on at *
      unfold maxLen at hc3m
      go_wp2_with fail
      go_loopw [12, 13] (fun kv jv wr => ∃ j : Nat, j ≤ all.length ∧ jv = .int .i64 (j : Int) ∧ kv = .int .i64 (tkn (gq L x lo hi) all 0 j : Int) ∧ Below w3.heap.size w3 wr) (fun _ jv _ => all.length - (intOf jv).toNat)
      case atStart => exact ⟨0, Nat.zero_le _, rfl, by rw [tkn_start]; rfl, Below.refl _ _⟩
      case round =>
        obtain ⟨j, hjn, rfl, rfl, hbr2⟩ := hrel
        have HB4 := hide (HB3.out.trans (hbr2.mono HB3.out.size))
        have HB34 := hide hbr2
        obtain ⟨r0, r8, r9, r6, r3, r4, ra, rw⟩ := RD.out _ HB4.out
        clear hbr2 rw
        have hkl := tkn_le (gq L x lo hi) all j
        by_cases hjl : j < all.length
        · obtain ⟨gv, rfl⟩ := own_some ra (by omega)
          obtain ⟨x0, x1, x2⟩ := own_en ra rfl (k := j) hjl
          have hmem : all.getD j e0 ∈ all := by rw [← List.getElem_eq_getD (h := hjl)]; exact List.getElem_mem hjl
          obtain ⟨t0, t1, t2⟩ := HBD.out _ hmem
          have hnx := tkn_next (f := gq L x lo hi) (Nat.zero_le j) hjl
          have htl := HTL.out j hjl
          generalize hE : all.getD j e0 = ee at *
          obtain ⟨es, et, ex⟩ := ee
          simp only at x0 x1 x2 t0 t1 t2
          have hbx := below_allocG wr (Obj.cells #[.int .i64 es, .int .i64 et, .string ex] 49)
          have hkx := new_blk wr #[.int .i64 es, .int .i64 et, .string ex] 49
          obtain ⟨w5, hw5⟩ : ∃ w5, w5 = wr.alloc (Obj.cells #[.int .i64 es, .int .i64 et, .string ex] 49) := ⟨_, rfl⟩
          obtain ⟨nx, hnx5⟩ : ∃ nx, nx = wr.heap.size := ⟨_, rfl⟩
          rw [← hw5] at hbx hkx
          rw [← hnx5] at hkx
          have HB5 := hide (HB34.out.trans (hbx.mono HB34.out.size))
          have BX5 := hide hkx
          have HW5 := hide hw5
          have HNX5 := hide hnx5
          have hjI : (j : Int) < (all.length : Int) := by omega
          clear hbx hkx hw5 hnx5 hmem hE
          have CH : Hid (∀ d os, Calls Tryz.prog 13 #[.string ex, .string x] (Sort.grow (redrawn w5 d) os) fun e w'' => e = .returned (.bool (memD x (wd ex))) ∧ ∃ p : Regrown, w'' = Sort.grow (redrawn w5 p.d) p.os) := fun d os => Calls.regrown_of ((Kp.has_any ex x (by omega) (by omega) hxs.1 _).mono fun e w' q => ⟨q.1, by rw [q.2]; exact Below.refl _ _⟩)
          have hgc := gq_cases L x lo hi ⟨es, et, ex⟩ _ rfl
          simp only at hgc
          generalize memD x (wd ex) = hv at *
          have hw1w5 : Below w1.heap.size w1 w5 := HB3.out.trans (HB5.out.mono HB3.out.size)
          have hwi := (RD.out w5 hw1w5).2.2.2.2.2.2.2 i hlt
          rw [HXX.out] at hwi
          have q2 := cell_regrown (cell_of (j := 2) (u := .string ex) BX5.out rfl).1
          have qw := cell_regrown hwi
          clear hw1w5 hwi ra r0 r3 r4 r6 r9
          have HX0 := hide (⟨x0, x1, x2⟩ : _ ∧ _ ∧ _)
          go_upto_region 11 with fail
          rw [← HW5.out, ← HNX5.out]
          clear x0 x1 x2 r8 HX0
          refine wp_region_quiet_below (by kernel_rfl) (by kernel_rfl) ?_
          repeat (go_big_quiet_step (first | (go_at_call 13; exact CH.out _ _)))
          refine wpQuiet_nil ?_
          intro _ hw'
          obtain ⟨⟨dq6, osq6⟩, hw''⟩ := hw'
          subst hw''
          have HB6 := hide (HB5.out.trans ((below_regrown w5 dq6 osq6).mono HB5.out.size))
          have BX6 := hide ((below_regrown w5 dq6 osq6).block nx (Array.getElem?_eq_some_iff.1 BX5.out).1 |>.trans BX5.out)
          clear q2 qw CH
          generalize Sort.grow (redrawn w5 dq6) osq6 = w6 at *
          obtain ⟨r0, r8, r9, r6, r3, r4, ra, _⟩ := RD.out w6 (HB3.out.trans (HB6.out.mono HB3.out.size))
          have b0 := (cell_of (j := 0) (u := .int .i64 es) BX6.out rfl).1
          have b1 := (cell_of (j := 1) (u := .int .i64 et) BX6.out rfl).1
          have b2 := (cell_of (j := 2) (u := .string ex) BX6.out rfl).1
          have b1' := cell_regrown b1
          have r9' := cell_regrown r9
          have r6' := cell_regrown r6
          clear r0 r8 r9 r6 r3 r4 ra b0 b1 b2
          rcases hgc with ⟨rfl, hg⟩ | ⟨rfl, g1, hg⟩ | ⟨rfl, g1, g2, hg⟩ | ⟨rfl, g1, g2, g3, hg⟩ | ⟨rfl, g1, g2, g3, hg⟩
          · rw [hg, if_neg (by decide), Nat.add_zero] at hnx
            have HNX := hide hnx
            clear hnx htl HTL
            go_upto_region 12 with fail
            refine wp_region_quiet_below (by kernel_rfl) (by kernel_rfl) ?_
            repeat (go_big_quiet_step (fail))
            refine wpQuiet_nil ?_
            intro _ hw'
            obtain ⟨⟨dq7, osq7⟩, hw''⟩ := hw'
            subst hw''
            have HB7 := hide (HB6.out.trans ((below_regrown w6 dq7 osq7).mono HB6.out.size))
            have BX7 := hide ((below_regrown w6 dq7 osq7).block nx (Array.getElem?_eq_some_iff.1 BX6.out).1 |>.trans BX6.out)
            clear b1' r9' r6'
            generalize Sort.grow (redrawn w6 dq7) osq7 = w7 at *
            go_wp2_with fail
            go_roundw
            case rel => exact ⟨j + 1, by omega, by go_num, by rw [HNX.out]; rfl, HB7.out⟩
            case measure => simp [intOf]; omega
          · rw [hg, if_neg (by decide), Nat.add_zero] at hnx
            have HNX := hide hnx
            clear hnx htl HTL
            go_upto_region 12 with fail
            refine wp_region_quiet_below (by kernel_rfl) (by kernel_rfl) ?_
            repeat (go_big_quiet_step (fail))
            refine wpQuiet_nil ?_
            intro _ hw'
            obtain ⟨⟨dq7, osq7⟩, hw''⟩ := hw'
            subst hw''
            have HB7 := hide (HB6.out.trans ((below_regrown w6 dq7 osq7).mono HB6.out.size))
            have BX7 := hide ((below_regrown w6 dq7 osq7).block nx (Array.getElem?_eq_some_iff.1 BX6.out).1 |>.trans BX6.out)
            clear b1' r9' r6'
            generalize Sort.grow (redrawn w6 dq7) osq7 = w7 at *
            go_wp2_with fail
            go_roundw
            case rel => exact ⟨j + 1, by omega, by go_num, by rw [HNX.out]; rfl, HB7.out⟩
            case measure => simp [intOf]; omega
          · rw [hg, if_neg (by decide), Nat.add_zero] at hnx
            have HNX := hide hnx
            clear hnx htl HTL
            go_upto_region 12 with fail
            refine wp_region_quiet_below (by kernel_rfl) (by kernel_rfl) ?_
            repeat (go_big_quiet_step (fail))
            refine wpQuiet_nil ?_
            intro _ hw'
            obtain ⟨⟨dq7, osq7⟩, hw''⟩ := hw'
            subst hw''
            have HB7 := hide (HB6.out.trans ((below_regrown w6 dq7 osq7).mono HB6.out.size))
            have BX7 := hide ((below_regrown w6 dq7 osq7).block nx (Array.getElem?_eq_some_iff.1 BX6.out).1 |>.trans BX6.out)
            clear b1' r9' r6'
            generalize Sort.grow (redrawn w6 dq7) osq7 = w7 at *
            go_wp2_with fail
            go_roundw
            case rel => exact ⟨j + 1, by omega, by go_num, by rw [HNX.out]; rfl, HB7.out⟩
            case measure => simp [intOf]; omega
          · rw [hg, if_neg (by decide), Nat.add_zero] at hnx
            have HNX := hide hnx
            clear hnx htl HTL
            go_upto_region 12 with fail
            refine wp_region_quiet_below (by kernel_rfl) (by kernel_rfl) ?_
            repeat (go_big_quiet_step (fail))
            refine wpQuiet_nil ?_
            intro _ hw'
            obtain ⟨⟨dq7, osq7⟩, hw''⟩ := hw'
            subst hw''
            have HB7 := hide (HB6.out.trans ((below_regrown w6 dq7 osq7).mono HB6.out.size))
            have BX7 := hide ((below_regrown w6 dq7 osq7).block nx (Array.getElem?_eq_some_iff.1 BX6.out).1 |>.trans BX6.out)
            clear b1' r9' r6'
            generalize Sort.grow (redrawn w6 dq7) osq7 = w7 at *
            go_wp2_with fail
            go_roundw
            case rel => exact ⟨j + 1, by omega, by go_num, by rw [HNX.out]; rfl, HB7.out⟩
            case measure => simp [intOf]; omega
          · rw [hg, if_pos rfl] at hnx
            obtain ⟨k1, k2⟩ := htl hg
            have HNX := hide hnx
            clear hnx HTL
            go_upto_region 12 with fail
            refine wp_region_quiet_below (by kernel_rfl) (by kernel_rfl) ?_
            repeat (go_big_quiet_step (fail))
            refine wpQuiet_nil ?_
            intro _ hw'
            obtain ⟨⟨dq7, osq7⟩, hw''⟩ := hw'
            subst hw''
            have HB7 := hide (HB6.out.trans ((below_regrown w6 dq7 osq7).mono HB6.out.size))
            have BX7 := hide ((below_regrown w6 dq7 osq7).block nx (Array.getElem?_eq_some_iff.1 BX6.out).1 |>.trans BX6.out)
            clear b1' r9' r6'
            generalize Sort.grow (redrawn w6 dq7) osq7 = w7 at *
            have ho7 := own_same HO3.out (fun g hg => HB7.out.block g (own_block HO3.out hg).2.1)
            obtain ⟨g3', rfl⟩ := own_some ho7 (by omega)
            obtain ⟨z0, z1, z2⟩ := own_en ho7 rfl (k := tkn (gq L x lo hi) all 0 j) k1
            rw [k2] at z0 z1 z2
            simp only at z0 z1 z2
            have hkI : ¬ (told.length : Int) ≤ (tkn (gq L x lo hi) all 0 j : Int) := by omega
            clear k2 ho7
            generalize tkn (gq L x lo hi) all 0 j = kk at *
            have b0' := cell_regrown (cell_of (j := 0) (u := .int .i64 es) BX7.out rfl).1
            have b1' := cell_regrown (cell_of (j := 1) (u := .int .i64 et) BX7.out rfl).1
            have b2' := cell_regrown (cell_of (j := 2) (u := .string ex) BX7.out rfl).1
            have z0' := cell_regrown z0
            have z1' := cell_regrown z1
            have z2' := cell_regrown z2
            clear z0 z1 z2
            go_upto_region 13 with fail
            refine wp_region_quiet_below (by kernel_rfl) (by kernel_rfl) ?_
            repeat (go_big_quiet_step (fail))
            refine wpQuiet_nil ?_
            intro _ hw'
            obtain ⟨⟨dq8, osq8⟩, hw''⟩ := hw'
            subst hw''
            have HB8 := hide (HB7.out.trans ((below_regrown w7 dq8 osq8).mono HB7.out.size))
            have BX8 := hide ((below_regrown w7 dq8 osq8).block nx (Array.getElem?_eq_some_iff.1 BX7.out).1 |>.trans BX7.out)
            clear b0' b1' b2' z0' z1' z2'
            generalize Sort.grow (redrawn w7 dq8) osq8 = w8 at *
            go_wp2_with fail
            go_roundw
            case rel => exact ⟨j + 1, by omega, by go_num, by rw [HNX.out]; go_num, HB8.out⟩
            case measure => simp [intOf]; omega
        · obtain rfl : j = all.length := by omega
          rw [← HLEN.out]
          have r3' := cell_regrown r3
          have r4' := cell_regrown r4
          have r8' := cell_regrown r8
          have hI0 : ¬ (on : Int) < 0 := by omega
          have hI : ¬ (L.fan : Int) + (L.back : Int) + ((L.fan : Int) + 1) * 6 + (all.length : Int) < (on : Int) := by omega
          clear r0 r3 r4 r6 r9 ra HTL
          go_upto_region 16 with fail
          refine wp_region_quiet_below (by kernel_rfl) (by kernel_rfl) ?_
          repeat (go_big_quiet_step (fail))
          refine wpQuiet_nil ?_
          intro _ hw'
          obtain ⟨⟨dq9, osq9⟩, hw''⟩ := hw'
          subst hw''
          have HB9 := hide (HB4.out.trans ((below_regrown wr dq9 osq9).mono HB4.out.size))
          clear r3' r4' r8'
          generalize Sort.grow (redrawn wr dq9) osq9 = w9 at *
          go_wp2_with fail
          go_roundw
          case rel => exact ⟨i + 1, by omega, by go_num, HB9.out⟩
          case measure => simp [intOf]; omega
    · go_wp2_with fail
      go_ret
      exact ⟨rfl, HB1.out.trans (hbr.mono HB1.out.size)⟩
end Go.Proofs.YtkncboinfcnklabGreatDoor.Kq

namespace Go.Proofs.YtkncboinfcnklabGreatDoor.Kq
open Go.RowKit Go.Deep Go.Shelf Go.Proofs.YtkncboinfcnklabGreatDoor.Mth Go.Proofs.YtkncboinfcnklabGreatDoor.Kp

theorem lays_any {w : World} {ρ : Nat → Nat} {B N M lb sb : Nat} {hb : Xt} {G : Gh} {L : Lg} {all : List Ent} {tls : List Fo} {av tv : Value} (h : Sh w ρ B N M lb sb hb G L all tls av tv) (hB : B ≤ w.heap.size) (ht : TabB B w) (s : ByteArray) (hs : s.size ≤ 1048576) (hM : M ≤ 400000) :
    Calls Tryz.prog 19 #[ptrV sb, .string s] w fun e w' => e = .returned (.tuple #[]) ∧ ∃ hb' L' all', ShX w w' B N (M + 1) lb sb hb' L' all' tls := by
  have hcf := h.inv.cfg
  have hbd := h.bud
  have hlv := h.inv.lev 0 (by omega)
  by_cases q0 : G.left = 0
  · by_cases h0 : s.size ≤ 60 ∧ hb.tx = [] ∧ hb.tk = 0
    · refine (lays_dn h hB s h0.1 h0.2 ((append_down h.log s q0).mono ?_)).mono ?_
      · rintro e w' ⟨rfl, rfl⟩
        exact ⟨rfl, DnR.of0 h h0.2 q0 (.lay s) h0.1 (Below.refl _ _)⟩
      · rintro e w' ⟨rfl, hb', hx⟩
        exact ⟨rfl, hb', L, all, hx⟩
    · refine (lays_skip h hB s hs q0 h0).mono ?_
      rintro e w' ⟨rfl, hx⟩
      exact ⟨rfl, hb, L, all, hx.mono (by omega)⟩
  by_cases h1 : 60 < s.size
  · refine (lays_long h hB q0 s h1 hs).mono ?_
    rintro e w' ⟨rfl, hx⟩
    exact ⟨rfl, hb, L, all, hx.mono (by omega)⟩
  by_cases h2 : L.memory ≤ L.mem.length ∧ L.fan + L.back ≤ (L.lev 0).length
  · refine (lays_busy h hB q0 s (by omega) h2.1 h2.2 hM).mono ?_
    rintro e w' ⟨rfl, hx⟩
    exact ⟨rfl, hb, L, all, hx.mono (by omega)⟩
  by_cases q1 : G.left = 1
  · refine (lays_dn h hB s (by omega) (h.dk.idle q0) ((append_down1 h.log hB s q1 (by omega) h2 hcf.2.1.2 hcf.2.2.1 (by omega) (by omega)).mono ?_)).mono ?_
    · rintro e w' ⟨rfl, ha⟩
      exact ⟨rfl, DnR.of1 h q1 (.lay s) (by show s.size ≤ 60; omega) ha⟩
    · rintro e w' ⟨rfl, hb', hx⟩
      exact ⟨rfl, hb', L, all, hx⟩
  · refine (lays_ok h hB q0 q1 ht s (by omega) h2 hM).mono ?_
    rintro e w' ⟨rfl, hx⟩
    exact ⟨rfl, hb, _, _, hx⟩
theorem passes_any {w : World} {ρ : Nat → Nat} {B N M lb sb : Nat} {hb : Xt} {G : Gh} {L : Lg} {all : List Ent} {tls : List Fo} {av tv : Value} (h : Sh w ρ B N M lb sb hb G L all tls av tv) (hB : B ≤ w.heap.size) (ht : Tab10B B w) (n : Nat) (h1 : 1 ≤ n) (h2 : n ≤ 1000) (hM : M ≤ 400000) :
    Calls Tryz.prog 21 #[ptrV sb, .int .i64 (n : Int)] w fun e w' => e = .returned (.tuple #[]) ∧ ∃ hb' L', ShX w w' B N (M + 1) lb sb hb' L' all tls := by
  have hbd := h.bud
  cases hc : canTick L.clock (n : Int) with
  | false =>
    refine (passes_no h hB n h1 h2 hc).mono ?_
    rintro e w' ⟨rfl, hx⟩
    exact ⟨rfl, hb, L, hx.mono (by omega)⟩
  | true =>
    have hsum : L.clock + n ≤ 1000000000000 := by
      have hc' := hc
      unfold canTick at hc'
      simp at hc'
      omega
    by_cases q0 : G.left = 0
    · by_cases h0 : hb.tx = [] ∧ hb.tk = 0
      · refine (passes_dn h hB n h1 h2 hsum h0 ((tick_down0 h.log ht.now n h.inv.clk hc q0).mono ?_)).mono ?_
        · rintro e w' ⟨rfl, hb'⟩
          exact ⟨rfl, DnR.of0 h h0 q0 (.tick n) (by show n ≤ 1000000; omega) hb'⟩
        · rintro e w' ⟨rfl, hb', hx⟩
          exact ⟨rfl, hb', L, hx⟩
      · refine (passes_skip h hB ht n hc q0 h0).mono ?_
        rintro e w' ⟨rfl, hx⟩
        exact ⟨rfl, hb, L, hx.mono (by omega)⟩
    by_cases q1 : G.left = 1
    · refine (passes_dn h hB n h1 h2 hsum (h.dk.idle q0) ((tick_down1 h.log hB ht.now n h.inv.clk hc q1 (by omega)).mono ?_)).mono ?_
      · rintro e w' ⟨rfl, ha⟩
        exact ⟨rfl, DnR.of1 h q1 (.tick n) (by show n ≤ 1000000; omega) ha⟩
      · rintro e w' ⟨rfl, hb', hx⟩
        exact ⟨rfl, hb', L, hx⟩
    · refine (passes_ok h hB q0 q1 ht n h1 h2 hc hM).mono ?_
      rintro e w' ⟨rfl, hx⟩
      exact ⟨rfl, hb, _, hx⟩
abbrev mvV (k a b : Int) (s : ByteArray) : Value := .agg #[.int .i64 k, .int .i64 a, .int .i64 b, .string s]
abbrev mvO (k a b : Int) (s : ByteArray) : Obj := Obj.cells #[.int .i64 k, .int .i64 a, .int .i64 b, .string s] 42
/-- A shelf behind a move. -/
def Mvd (w w' : World) (B N M lb sb : Nat) (hb : Xt) : Prop := ∃ L' all' tls' N', N' ≤ N ∧ ShX w w' B N' M lb sb hb L' all' tls'
/-- .. whatever may be there besides. -/
def Mvx (w w' : World) (B N M sb : Nat) : Prop := ∃ lb hb, Mvd w w' B N M lb sb hb

set_option maxRecDepth 100000 in
set_option maxHeartbeats 1000000 in
theorem mv_lays {w : World} {ρ : Nat → Nat} {B N M lb sb : Nat} {hb : Xt} {G : Gh} {L : Lg} {all : List Ent} {tls : List Fo} {av tv : Value} (h : Sh w ρ B N M lb sb hb G L all tls av tv) (hB : B ≤ w.heap.size) (ht : TabB B w) (k a b : Int) (s : ByteArray) (hk : I64 k) (hs : s.size ≤ 1048576) (hM : M ≤ 400000) (hp : pkI k 11 = 0 ∨ pkI k 11 = 1 ∨ pkI k 11 = 2) :
    Calls Tryz.prog 10 #[ptrV sb, mvV k a b s] w fun e w' => e = .returned (.tuple #[]) ∧ Mvx w w' B (N + 1) (M + 1) sb := by
  have hb1 := below_allocG w (mvO k a b s)
  have hk1 := new_blk w #[.int .i64 k, .int .i64 a, .int .i64 b, .string s] 42
  have CK := hide (Kp.pick_any k 11 (w.alloc (mvO k a b s)) hk.1 hk.2 (by omega) (by omega))
  have hB1 := belowB hb1 hB
  have CL0 := lays_any (h.below hb1) (Nat.le_trans hB hb1.size) (ht.next hB1) s hs hM
  have CL : Hid (Calls Tryz.prog 19 #[ptrV sb, .string s] (w.alloc (mvO k a b s)) fun e w' => e = .returned (.tuple #[]) ∧ Mvx w w' B (N + 1) (M + 1) sb) := by
    refine Calls.mono CL0 ?_
    rintro e w' ⟨rfl, hb2, L', all', hx⟩
    exact ⟨rfl, lb, hb2, L', all', tls, N, by omega, hx.pre hB1⟩
  obtain ⟨w1, hw1⟩ : ∃ w1, w1 = w.alloc (mvO k a b s) := ⟨_, rfl⟩
  obtain ⟨nb, hnb⟩ : ∃ nb, nb = w.heap.size := ⟨_, rfl⟩
  rw [← hw1] at hk1 CK CL
  rw [← hnb] at hk1
  obtain ⟨c0, _⟩ := cell_of (j := 0) (u := .int .i64 k) hk1 rfl
  obtain ⟨c3, _⟩ := cell_of (j := 3) (u := .string s) hk1 rfl
  have HW1 := hide hw1
  have HNB := hide hnb
  clear h hb1 hk1 hB1 CL0 hw1 hnb
  generalize pkI k 11 = kk at *
  rcases hp with rfl | rfl | rfl
  all_goals (
    go_enter Tryz.func10, Tryz.ntmps10
    go_upto_region 1 with fail
    rw [← HW1.out, ← HNB.out]
    go_wp2_with (first
      | (go_at_call 7; refine CK.out.mono ?_; rintro e w' ⟨rfl, hw'⟩; rw [hw']; clear hw' w')
      | (go_at_call 19; refine CL.out.mono ?_; rintro e w2 ⟨rfl, hx⟩; have HX := hide hx; clear hx))
    go_end0
    exact ⟨rfl, HX.out⟩)

set_option maxRecDepth 100000 in
set_option maxHeartbeats 1000000 in
theorem mv_passes {w : World} {ρ : Nat → Nat} {B N M lb sb : Nat} {hb : Xt} {G : Gh} {L : Lg} {all : List Ent} {tls : List Fo} {av tv : Value} (h : Sh w ρ B N M lb sb hb G L all tls av tv) (hB : B ≤ w.heap.size) (ht : Tab10B B w) (k a b : Int) (s : ByteArray) (hk : I64 k) (hb' : I64 b) (hM : M ≤ 400000) (hp : pkI k 11 = 3) :
    Calls Tryz.prog 10 #[ptrV sb, mvV k a b s] w fun e w' => e = .returned (.tuple #[]) ∧ Mvx w w' B (N + 1) (M + 1) sb := by
  have hb1 := below_allocG w (mvO k a b s)
  have hk1 := new_blk w #[.int .i64 k, .int .i64 a, .int .i64 b, .string s] 42
  have CK := hide (Kp.pick_any k 11 (w.alloc (mvO k a b s)) hk.1 hk.2 (by omega) (by omega))
  have CKb := hide (Kp.pick_any b 1000 (w.alloc (mvO k a b s)) hb'.1 hb'.2 (by omega) (by omega))
  have hbd := pkI_bd b 1000 (by omega)
  have hB1 := belowB hb1 hB
  have hcast : ((1 + (pkI b 1000).toNat : Nat) : Int) = 1 + pkI b 1000 := by omega
  have CL0 := passes_any (h.below hb1) (Nat.le_trans hB hb1.size) (ht.next hB1) (1 + (pkI b 1000).toNat) (by omega) (by omega) hM
  rw [hcast] at CL0
  have CL : Hid (Calls Tryz.prog 21 #[ptrV sb, .int .i64 (1 + pkI b 1000)] (w.alloc (mvO k a b s)) fun e w' => e = .returned (.tuple #[]) ∧ Mvx w w' B (N + 1) (M + 1) sb) := by
    refine Calls.mono CL0 ?_
    rintro e w' ⟨rfl, hb2, L', hx⟩
    exact ⟨rfl, lb, hb2, L', all, tls, N, by omega, hx.pre hB1⟩
  obtain ⟨w1, hw1⟩ : ∃ w1, w1 = w.alloc (mvO k a b s) := ⟨_, rfl⟩
  obtain ⟨nb, hnb⟩ : ∃ nb, nb = w.heap.size := ⟨_, rfl⟩
  rw [← hw1] at hk1 CK CKb CL
  rw [← hnb] at hk1
  rw [hp] at CK
  obtain ⟨c0, _⟩ := cell_of (j := 0) (u := .int .i64 k) hk1 rfl
  obtain ⟨c2, _⟩ := cell_of (j := 2) (u := .int .i64 b) hk1 rfl
  have HW1 := hide hw1
  have HNB := hide hnb
  clear h hb1 hk1 hB1 CL0 hw1 hnb hp hcast
  generalize pkI b 1000 = bb at *
  go_enter Tryz.func10, Tryz.ntmps10
  go_upto_region 1 with fail
  rw [← HW1.out, ← HNB.out]
  go_wp2_with (first
    | (go_at_call_of 7 (Value.int .i64 11); refine CK.out.mono ?_; rintro e w' ⟨rfl, hw'⟩; rw [hw']; clear hw' w')
    | (go_at_call_of 7 (Value.int .i64 1000); refine CKb.out.mono ?_; rintro e w' ⟨rfl, hw'⟩; rw [hw']; clear hw' w')
    | (go_at_call 21; refine CL.out.mono ?_; rintro e w2 ⟨rfl, hx⟩; have HX := hide hx; clear hx))
  go_end0
  exact ⟨rfl, HX.out⟩
end Go.Proofs.YtkncboinfcnklabGreatDoor.Kq

namespace Go.Proofs.YtkncboinfcnklabGreatDoor.Kq
open Go.RowKit Go.Deep Go.Shelf Go.Proofs.YtkncboinfcnklabGreatDoor.Mth Go.Proofs.YtkncboinfcnklabGreatDoor.Kp

/-- What a step leaves as it was. -/
theorem StepR.same {L L' : Lg} {q : Nat} {r : Int} (hs : StepR L q r L') : L'.memory = L.memory ∧ L'.fan = L.fan ∧ L'.back = L.back ∧ L'.keep = L.keep ∧ L'.batch = L.batch ∧ L'.clock = L.clock ∧ L'.wks.length = L.wks.length ∧ L'.tls = L.tls ∧ L'.subs = L.subs ∧ L'.tn = L.tn := by
  unfold StepR at hs
  cases hr : (L.wks.getD q wk0).runs with
  | none =>
    rw [hr] at hs
    simp only at hs
    split at hs
    · obtain ⟨_, rfl⟩ := hs
      exact ⟨rfl, rfl, rfl, rfl, rfl, rfl, by simp [era_len], rfl, rfl, rfl⟩
    · split at hs
      · obtain ⟨_, rfl⟩ := hs
        exact ⟨rfl, rfl, rfl, rfl, rfl, rfl, rfl, rfl, rfl, rfl⟩
      · obtain ⟨_, rfl⟩ := hs
        exact ⟨rfl, rfl, rfl, rfl, rfl, rfl, by simp [era_len], rfl, rfl, rfl⟩
  | some i =>
    rw [hr] at hs
    simp only at hs
    split at hs
    · obtain ⟨_, rfl⟩ := hs
      exact ⟨rfl, rfl, rfl, rfl, rfl, rfl, by simp, rfl, rfl, rfl⟩
    · obtain ⟨_, m, _, rfl⟩ := hs
      obtain ⟨m1, m2, m3, m4, m5, m6, m7, m8, m9, m10, m11⟩ := mrg_mem { L with wks := L.wks.set q ⟨(L.wks.getD q wk0).list, none, 0⟩ } i m
      exact ⟨m3, m2, m4, m5, m6, m7, (by unfold Lg.ends; simp only [layTo_len, List.length_set]), m9, m11, m10⟩
theorem shC_same (lb : Nat) (hb : Xt) {L L' : Lg} (av tv : Value) (h : L'.memory = L.memory ∧ L'.fan = L.fan ∧ L'.back = L.back ∧ L'.keep = L.keep ∧ L'.batch = L.batch ∧ L'.clock = L.clock ∧ L'.wks.length = L.wks.length) : shC lb hb L' av tv = shC lb hb L av tv := by
  obtain ⟨h1, h2, h3, h4, h5, h6, h7⟩ := h
  unfold shC
  rw [h1, h2, h3, h4, h5, h6, h7]
/-- A worker's step, of a shelf's log. -/
theorem step_sh {w : World} {ρ : Nat → Nat} {B N M lb sb : Nat} {hb : Xt} {G : Gh} {L : Lg} {all : List Ent} {tls : List Fo} {av tv : Value} (h : Sh w ρ B N M lb sb hb G L all tls av tv) (hB : B ≤ w.heap.size) (ht : TabB B w) {q : Nat} (hq : q < L.wks.length) (hM : M ≤ 400000) :
    Calls Tryz.prog 24 #[ptrV lb, .int .i64 (q : Int)] w fun e w' => ∃ r L' ρ' G', e = .returned (.tuple #[.int .i64 r, .int .i64 0]) ∧ StepR L q r L' ∧ Sh w' ρ' B N M lb sb hb G' L' all tls av tv ∧ LStp w w' ρ ρ' := by
  have hcf := h.inv.cfg
  have hbd := h.bud
  refine (step_any h.log.x hB ht hq (fun i hr => ?_) (by omega) hcf.2.1.2 h.inv.clk hcf.2.2.2.1.2 (fun k hk => by have := h.inv.lev k hk; omega)).mono ?_
  · have hct : 0 < ct L.wks i := Nat.lt_of_lt_of_le (by unfold tc; rw [hr]; simp) (le_sum (tc i) (getD_mem' hq))
    obtain ⟨h1, h2⟩ := h.inv.big i hct
    have h3 := (h.inv.rd q hq).1 i hr
    exact ⟨h2, by omega, by have := h.inv.levFlat i L.fan (by omega); omega, h.inv.texts (by omega)⟩
  · rintro e w' ⟨r, L', rfl, hs, hX⟩
    obtain ⟨i1, i2, i3, i4, i5⟩ := h.inv.step hq hs
    obtain ⟨ρ', G', hl, hst, hgk⟩ := hX.log h.log.m i4
    obtain ⟨s1, s2, s3, s4, s5, s6, s7, s8, s9, s10⟩ := StepR.same hs
    have hm := h.mem.keep hst
    rw [← shC_same lb hb av tv ⟨s1, s2, s3, s4, s5, s6, s7⟩] at hm
    refine ⟨r, L', ρ', G', rfl, hs, ⟨hl, hm, i1, ?_, ?_, h.tl.mono (Nat.le_refl _) s8 s9 s10⟩, hst⟩
    · rw [s6]; exact h.dk.mono (Nat.le_refl _) (by rw [hgk]) (by rw [hgk]) (by rw [hgk]) (by rw [hgk])
    · rw [hgk]; exact h.bud

set_option maxRecDepth 100000 in
set_option maxHeartbeats 1000000 in
theorem mv_step {w : World} {ρ : Nat → Nat} {B N M lb sb : Nat} {hb : Xt} {G : Gh} {L : Lg} {all : List Ent} {tls : List Fo} {av tv : Value} (h : Sh w ρ B N M lb sb hb G L all tls av tv) (hB : B ≤ w.heap.size) (ht : TabB B w) (k a b : Int) (s : ByteArray) (hk : I64 k) (ha : I64 a) (hM : M ≤ 400000) (hp : pkI k 11 = 4 ∨ pkI k 11 = 5) :
    Calls Tryz.prog 10 #[ptrV sb, mvV k a b s] w fun e w' => e = .returned (.tuple #[]) ∧ Mvd w w' B (N + 1) (M + 1) lb sb hb := by
  have hb1 := below_allocG w (mvO k a b s)
  have hk1 := new_blk w #[.int .i64 k, .int .i64 a, .int .i64 b, .string s] 42
  have CK := hide (Kp.pick_any k 11 (w.alloc (mvO k a b s)) hk.1 hk.2 (by omega) (by omega))
  have hfew := h.log.x.k.few
  have CKa : Hid (∀ W, Calls Tryz.prog 7 #[.int .i64 a, .int .i64 (L.wks.length : Int)] W fun e w' => e = .returned (.int .i64 (pkI a (L.wks.length : Int))) ∧ w' = W) := fun W => Kp.pick_any a (L.wks.length : Int) W ha.1 ha.2 (by omega) (by omega)
  have hbd := pkI_bd a (L.wks.length : Int) (by omega)
  have hB1 := belowB hb1 hB
  have hcast : ((pkI a (L.wks.length : Int)).toNat : Int) = pkI a (L.wks.length : Int) := by omega
  have h1 := h.below hb1
  obtain ⟨w1, hw1⟩ : ∃ w1, w1 = w.alloc (mvO k a b s) := ⟨_, rfl⟩
  obtain ⟨nb, hnb⟩ : ∃ nb, nb = w.heap.size := ⟨_, rfl⟩
  rw [← hw1] at hk1 CK hb1 hB1 h1
  rw [← hnb] at hk1
  have hnlt : nb < w1.heap.size := (Array.getElem?_eq_some_iff.1 hk1).1
  have hrn : ρ nb = 0 := h.log.free (by omega)
  have hBd : Below B w w1.drew := hB1.trans (belowB (drewB w1) (Nat.le_trans hB hB1.size))
  have CS0 := step_sh (h1.below (drewB w1)) (Nat.le_trans hB hBd.size) (ht.next hBd) (q := (pkI a (L.wks.length : Int)).toNat) (by omega) hM
  rw [hcast] at CS0
  have CS : Hid (Calls Tryz.prog 24 #[ptrV lb, .int .i64 (pkI a (L.wks.length : Int))] w1.drew fun e w' => ∃ r : Int, e = .returned (.tuple #[.int .i64 r, .int .i64 0]) ∧ 0 ≤ r ∧ r ≤ 2 ∧ w'.cell? ⟨sb, 0, none⟩ = some (ptrV lb) ∧ w'.cell? ⟨sb, 5, none⟩ = some (.int .i64 (L.wks.length : Int)) ∧ w'.cell? ⟨nb, 1, none⟩ = some (.int .i64 a) ∧ w'.cell? ⟨sb, 13, none⟩ = some (.bool true) ∧ w'.frozen? ⟨sb, 13, none⟩ = false ∧ Mvd w (w'.setCell ⟨sb, 13, none⟩ (.bool true)) B (N + 1) (M + 1) lb sb hb) := by
    refine Calls.mono CS0 ?_
    rintro e w' ⟨r, L', ρ', G', rfl, hs, hSh, hst⟩
    obtain ⟨i1, i2, i3, i4, i5⟩ := h.inv.step (by omega) hs
    have hw7 := (StepR.same hs).2.2.2.2.2.2.1
    have hBw' : Below B w w' := hB1.trans (below_lstp (Below.refl B w1) (LStp.pre (drewB w1) hst) h1.log.x.lt (Nat.le_trans hB hB1.size))
    have hkn : w'.heap[nb]? = _ := (hst.tch.block nb hnlt (fun q => q.1 hrn)).trans hk1
    have c5 := (hSh.cell (j := 5) (u := .int .i64 (L'.wks.length : Int)) rfl).1
    rw [hw7] at c5
    exact ⟨r, rfl, i2, i3, (hSh.cell (j := 0) rfl).1, c5, (cell_of (j := 1) hkn rfl).1, (hSh.cell (j := 13) rfl).1, (hSh.cell (j := 13) (u := .bool true) rfl).2, L', all, tls, N, by omega, (((hSh.fine (Nat.le_trans hB hBw'.size)).pre hBw').mono (by omega))⟩
  obtain ⟨c0, _⟩ := cell_of (j := 0) (u := .int .i64 k) hk1 rfl
  obtain ⟨c1, _⟩ := cell_of (j := 1) (u := .int .i64 a) hk1 rfl
  obtain ⟨d0, _⟩ := h1.cell (j := 0) (u := ptrV lb) rfl
  obtain ⟨d5, _⟩ := h1.cell (j := 5) (u := .int .i64 (L.wks.length : Int)) rfl
  have HW1 := hide hw1
  have HNB := hide hnb
  clear h h1 hb1 hk1 hB1 CS0 hw1 hnb hcast hBd ht
  generalize pkI a (L.wks.length : Int) = aa at *
  generalize L.wks.length = nw at *
  generalize pkI k 11 = kk at *
  rcases hp with rfl | rfl
  all_goals (
    go_enter Tryz.func10, Tryz.ntmps10
    go_upto_region 1 with fail
    rw [← HW1.out, ← HNB.out]
    go_upto_region 10 with (first
      | (go_at_call 7; refine CK.out.mono ?_; rintro e w' ⟨rfl, hw'⟩; rw [hw']; clear hw' w'))
    go_region_held3 (fun w' => w'.cell? ⟨sb, 0, none⟩ = some (ptrV lb) ∧ w'.cell? ⟨sb, 5, none⟩ = some (.int .i64 (nw : Int)) ∧ w'.cell? ⟨nb, 1, none⟩ = some (.int .i64 a)) (first | exact ⟨d0, d5, c1⟩ | exact ⟨m0, m5, m1⟩ | fail)
      (first
        | (go_at_call 7; refine (CKa.out _).mono ?_; rintro e w' ⟨rfl, rfl⟩)
        | (go_at_call 24; refine CS.out.mono ?_; rintro e w3 ⟨r, rfl, r0, r2, m0, m5, m1, d13, f13, hx⟩; have HX := hide hx; clear hx))
    go_wp2_with fail
    go_end0
    exact ⟨rfl, HX.out⟩)
end Go.Proofs.YtkncboinfcnklabGreatDoor.Kq
