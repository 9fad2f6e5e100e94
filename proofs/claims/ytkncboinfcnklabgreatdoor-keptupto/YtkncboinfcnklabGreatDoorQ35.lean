import Derived.Test.YtkncboinfcnklabGreatDoorQ32
import Derived.Test.YtkncboinfcnklabGreatDoorQ29
import Derived.StillTailTactics
import Derived.Test.YtkncboinfcnklabGreatDoorQ30
import Derived.Deep.RegionHeld3
namespace Go.Proofs.YtkncboinfcnklabGreatDoor.Kq
open Go.RowKit Go.Deep Go.Shelf Go.Proofs.YtkncboinfcnklabGreatDoor.Mth Go.Proofs.YtkncboinfcnklabGreatDoor.Kp

/-- 'now ab', and its word. -/
def nowT : ByteArray := ⟨#[110, 111, 119, 32, 97, 98]⟩
def nowW : ByteArray := ⟨#[110, 111, 119]⟩
theorem now_wd : isWd nowW = true := by decide +kernel
theorem now_mem : memD nowW (wd nowT) = true := memD_to ((wd_stands nowT nowW (by decide)).2 ⟨0, by decide, by decide, by decide, by decide, by decide⟩)
/-- What late leaves. -/
structure LtR (w w' : World) (ρ : Nat → Nat) (B N lb sb : Nat) (hb : Xt) (G : Gh) (L : Lg) (c0 : Nat) (all : List Ent) (tls : List Fo) (tv : Value) : Prop where
  ex : ∃ ρ' G' av', LogAt w' ρ' B N lb G' (L.app nowT) ∧ ShM w' ρ' B sb hb (shC lb hb { L with clock := c0 } av' tv) (all ++ [⟨(all.length : Int), (L.clock : Int), nowT⟩]) tls av' tv ∧ G'.dt = G.dt ++ recB 0 nowT ∧ G'.left = -1 ∧ G'.sf = G'.dt.size ∧ G'.sb = G.sb
  bel : Below B w w'
theorem now_last {L : Lg} {all : List Ent} {c0 tk : Nat} (hc : L.clock = c0 ∨ L.clock = c0 + tk) : ∃ l, tld (gq (L.app nowT) nowW (c0 : Int) ((c0 : Int) + (tk : Int))) (all ++ [⟨(all.length : Int), (L.clock : Int), nowT⟩]) 0 (all.length + 1 + 1) = l ++ [⟨(all.length : Int), (L.clock : Int), nowT⟩] ∧ l.length ≤ all.length := by
  have hg : gq (L.app nowT) nowW (c0 : Int) ((c0 : Int) + (tk : Int)) ⟨(all.length : Int), (L.clock : Int), nowT⟩ = true := by
    unfold gq yng
    rw [app_clock]
    simp only [Bool.and_eq_true, decide_eq_true_eq]
    refine ⟨by first | exact now_mem | simpa [memD] using now_mem, ?_, ?_⟩
    · show max (c0 : Int) ((L.clock : Int) - _) ≤ (L.clock : Int)
      omega
    · show (L.clock : Int) ≤ _
      omega
  refine ⟨all.filter (gq (L.app nowT) nowW (c0 : Int) ((c0 : Int) + (tk : Int))), ?_, List.length_filter_le _ _⟩
  unfold tld
  rw [List.drop_zero, List.filter_append, List.filter_cons, if_pos hg, List.filter_nil, List.take_of_length_le]
  rw [List.length_append, List.length_singleton]
  have := List.length_filter_le (gq (L.app nowT) nowW (c0 : Int) ((c0 : Int) + (tk : Int))) all
  omega

set_option maxRecDepth 100000 in
set_option maxHeartbeats 4000000 in
theorem late_any {w : World} {ρ : Nat → Nat} {B N M lb sb : Nat} {hb : Xt} {G : Gh} {L : Lg} {c0 : Nat} {all : List Ent} {tls : List Fo} {av tv : Value} (hl : LogAt w ρ B N lb G L) (hm : ShM w ρ B sb hb (shC lb hb { L with clock := c0 } av tv) all tls av tv) (hB : B ≤ w.heap.size) (ht : TabB B w) (hi : Inv L all) (hlf : G.left = -1) (hmm : L.mem = []) (hk : 0 < hb.tk) (hc : L.clock = c0 ∨ L.clock = c0 + hb.tk) (hck : c0 + hb.tk ≤ 1000000000000) (hM : all.length ≤ M) (hd : G.dt.size ≤ 64 * M) (hM4 : M ≤ 400000) :
    Calls Tryz.prog 18 #[ptrV sb] w fun e w' => e = .returned (.bool (decide (¬ L.clock = c0))) ∧ LtR w w' ρ B N lb sb hb G L c0 all tls tv := by
  obtain ⟨i0, hi0, hz0, hz1, hz2⟩ := info_parts Tryz.info49
  have hcf := hi.cfg
  have hcnt := hi.cnt
  have hclk := hi.clk
  have hn : ¬ (L.memory ≤ L.mem.length ∧ L.fan + L.back ≤ (L.lev 0).length) := fun q => by
    have := q.1
    rw [hmm] at this
    have := hcf.1.1
    simp at *
    omega
  have hia := hi.app (s := nowT) (by decide)
  have CA0 := append_ok hl hB ht nowT (by rw [hlf]; omega) (by rw [hlf]; omega) (by rw [hlf]; omega) (by rw [hlf]; omega) (by decide) hn hcf.2.1.2 hcf.2.2.1 (fun i h6 => by have := hi.lev i h6; omega) (by omega) (by omega) (by rw [hmm]; simp)
  rw [hcnt] at CA0
  have CA := hide CA0
  have hcfa := hia.cfg
  have HS2 : Hid (∀ w2, Apd w w2 ρ B N lb G (L.app nowT) (G.dt ++ recB 0 nowT) (decL (decL G.left)) → ∃ ρ2 G2, LogAt w2 ρ2 B N lb G2 (L.app nowT) ∧ ShM w2 ρ2 B sb hb (shC lb hb { L with clock := c0 } av tv) all tls av tv ∧ Below B w w2 ∧ (G2.dt = G.dt ++ recB 0 nowT ∧ G2.left = -1 ∧ G2.sf = G2.dt.size ∧ G2.sb = G.sb)) := by
    intro w2 ha
    obtain ⟨⟨ρ2, G2, a1, a2, a3, a4, a5⟩⟩ := ha
    exact ⟨ρ2, G2, a1, hm.keep a2, below_lstp (Below.refl B w) a2 hl.x.lt hB, a4, by rw [a5, hlf]; decide, a3.2, a3.1.sb⟩
  obtain ⟨told, htold, htl⟩ := now_last (all := all) hc
  have CQ : Hid (∀ W ρ2 G2, LogAt W ρ2 B N lb G2 (L.app nowT) → Tab W → Calls Tryz.prog 12 #[ptrV lb, .string nowW, .int .i64 (c0 : Int), .int .i64 ((c0 : Int) + (hb.tk : Int))] W fun e w' => ∃ g cc o, e = .returned (.tuple #[.slice (some ⟨g, 0, none⟩) (told.length + 1) cc, .int .i64 o, .int .i64 0]) ∧ told.length + 1 ≤ cc ∧ cc ≤ 9223372036854775807 ∧ w'.cell? ⟨g, told.length * 3, none⟩ = some (.int .i64 (all.length : Int)) ∧ w'.cell? ⟨g, told.length * 3 + 1, none⟩ = some (.int .i64 (L.clock : Int)) ∧ w'.cell? ⟨g, told.length * 3 + 2, none⟩ = some (.string nowT) ∧ Below W.heap.size W w') := by
    intro W ρ2 G2 h2 ht2
    have hla : (all ++ [(⟨(all.length : Int), (L.clock : Int), nowT⟩ : Ent)]).length = all.length + 1 := by simp
    refine (query_yes h2 ht2 nowW (by unfold maxLen; decide) now_wd (c0 : Int) ((c0 : Int) + (hb.tk : Int)) hia.clk hcfa.2.2.2.1.2 (fun k h6 => by have := hia.lev k h6; rw [hla] at this; omega) (by have := hia.stoLen; rw [hla] at this; omega) (fun es hes => hia.tmsOf (hia.segSub hes)) (hia.tmsOf hia.memSub)).mono ?_
    rintro e w' ⟨v, rfl, hcur⟩
    rw [hia.query, hla, htold] at hcur
    obtain ⟨hbw, hown⟩ := hcur
    have hln : (told ++ [(⟨(all.length : Int), (L.clock : Int), nowT⟩ : Ent)]).length = told.length + 1 := by simp
    obtain ⟨a, c, hv, hc1, hc2⟩ := own_slice hown
    rw [hv] at hown
    obtain ⟨g, rfl⟩ := own_some hown (by omega)
    obtain ⟨x0, x1, x2⟩ := own_en hown rfl (k := told.length) (by omega)
    have hlast : (told ++ [(⟨(all.length : Int), (L.clock : Int), nowT⟩ : Ent)]).getD told.length e0 = ⟨(all.length : Int), (L.clock : Int), nowT⟩ := by simp [List.getD]
    rw [hlast] at x0 x1 x2
    exact ⟨g, c, _, by rw [hv, hln], by omega, by unfold maxLen at hc2; omega, x0, x1, x2, hbw⟩
  obtain ⟨c0', _⟩ := cell_of (j := 0) (u := ptrV lb) hm.blk rfl
  obtain ⟨va, vc, hva, hvc, hvm⟩ := own_slice hm.row
  subst hva
  unfold maxLen at hvm
  have HT := hide ht
  have HLT : Hid (∀ w' ρ' G' av', LogAt w' ρ' B N lb G' (L.app nowT) → ShM w' ρ' B sb hb (shC lb hb { L with clock := c0 } av' tv) (all ++ [⟨(all.length : Int), (L.clock : Int), nowT⟩]) tls av' tv → (G'.dt = G.dt ++ recB 0 nowT ∧ G'.left = -1 ∧ G'.sf = G'.dt.size ∧ G'.sb = G.sb) → Below B w w' → LtR w w' ρ B N lb sb hb G L c0 all tls tv) := fun w' ρ' G' av' h1 h2 h3 h4 => ⟨⟨ρ', G', av', h1, h2, h3⟩, h4⟩
  clear hl hm CA0 hcf hcnt hn hi hia hcfa ht hlf hmm htold
  generalize L.app nowT = LA at *
  generalize L.clock = ck at *
  have hblk9 : ∀ av', (shC lb hb { L with clock := c0 } av' tv)[9]? = some (.int .i64 (c0 : Int)) := fun _ => rfl
  have hblk11 : ∀ av', (shC lb hb { L with clock := c0 } av' tv)[11]? = some (.int .i64 (hb.tk : Int)) := fun _ => rfl
  generalize ({ L with clock := c0 } : Lg) = L0 at *
  generalize hal : all.length = n at *
  have HAL := hide hal
  clear hal
  generalize hb.tk = tk at *
  generalize told.length = tl at *
  unfold nowT nowW at *
  have hnn : ((tl + 1 : Nat) : Int) - 1 = (tl : Int) := by omega
  go_enter Tryz.func18, Tryz.ntmps18
  go_upto_region 2 with (first | (go_at_call 40; refine CA.out.mono ?_; rintro e w2 ⟨rfl, ha⟩; obtain ⟨ρ2, G2, hl2, hm2, hB2, hg2⟩ := HS2.out w2 ha; clear ha))
  have hBw2 : B ≤ w2.heap.size := Nat.le_trans hB hB2.size
  obtain ⟨c8, _⟩ := cell_of (j := 8) (u := .slice va n vc) hm2.blk rfl
  obtain ⟨c9, _⟩ := cell_of (j := 9) (u := .int .i64 (c0 : Int)) hm2.blk (hblk9 _)
  obtain ⟨c11, _⟩ := cell_of (j := 11) (u := .int .i64 (tk : Int)) hm2.blk (hblk11 _)
  obtain ⟨d0, _⟩ := cell_of (j := 0) (u := ptrV lb) hm2.blk rfl
  have CQ2 := hide (CQ.out w2.drew ρ2 G2 (hl2.below (drewB w2)) (HT.out.next (hB2.trans (belowB (drewB w2) hBw2))).now)
  have HL2 := hide hl2
  have HM2 := hide hm2
  have HB2 := hide hB2
  have HG2 := hide hg2
  clear hl2 hm2 hB2 hg2 HS2 CA CQ
  go_upto_region 5 with fail
  go_cut [5, 6, 7] from 9 (fun lv _ fv wx => ∃ g cc, lv = .slice (some ⟨g, 0, none⟩) (tl + 1) cc ∧ fv = .int .i64 0 ∧ tl + 1 ≤ cc ∧ cc ≤ 9223372036854775807 ∧ wx.cell? ⟨g, tl * 3, none⟩ = some (.int .i64 (n : Int)) ∧ wx.cell? ⟨g, tl * 3 + 1, none⟩ = some (.int .i64 (ck : Int)) ∧ wx.cell? ⟨g, tl * 3 + 2, none⟩ = some (.string ⟨#[110, 111, 119, 32, 97, 98]⟩) ∧ Below w2.heap.size w2 wx)
  case first =>
    have hwr : IntKind.i64.wrap ((c0 : Int) + (tk : Int)) = (c0 : Int) + (tk : Int) := by rw [IntKind.wrap_i64]; omega
    have e0 : w2.drew.cell? ⟨sb, 0, none⟩ = some (ptrV lb) := d0
    have e9 : w2.drew.cell? ⟨sb, 9, none⟩ = some (.int .i64 (c0 : Int)) := c9
    have e11 : w2.drew.cell? ⟨sb, 11, none⟩ = some (.int .i64 (tk : Int)) := c11
    go_region_held3 (fun w' => w'.cell? ⟨sb, 0, none⟩ = some (ptrV lb) ∧ w'.cell? ⟨sb, 9, none⟩ = some (.int .i64 (c0 : Int)) ∧ w'.cell? ⟨sb, 11, none⟩ = some (.int .i64 (tk : Int))) (first | with_reducible exact ⟨e0, e9, e11⟩ | with_reducible exact ⟨d0, c9, c11⟩ | with_reducible exact ⟨m0, m1, m2⟩ | fail)
      (first | (go_at_call 12; (try rw [hwr]); refine CQ2.out.mono ?_; rintro e w3 ⟨g3, cc3, o3, rfl, hq1, hq2, y0, y1, y2, hb3⟩; have hb3' : Below w2.heap.size w2 w3 := below_drew1 hb3; have m0 := (hb3'.cell (p := ⟨sb, 0, none⟩) (World.block_lt_of_cell? _ _ d0)).trans d0; have m1 := (hb3'.cell (p := ⟨sb, 9, none⟩) (World.block_lt_of_cell? _ _ c9)).trans c9; have m2 := (hb3'.cell (p := ⟨sb, 11, none⟩) (World.block_lt_of_cell? _ _ c11)).trans c11; have HB3 := hide hb3'; clear hb3 hb3'))
    all_goals (go_wp2_with fail; go_meet; exact ⟨g3, cc3, rfl, rfl, hq1, hq2, y0, y1, y2, HB3.out⟩)
  case rest =>
    obtain ⟨g3, cc3, rfl, rfl, hq1, hq2, y0, y1, y2, hb3⟩ := hcut
    have hB3 := HB2.out.trans (belowB hb3 hBw2)
    have hl3 := HL2.out.below hb3
    have hm3 := HM2.out.below hb3
    have hBw3 : B ≤ wc.heap.size := Nat.le_trans hBw2 hb3.size
    clear c8 c9 c11 d0 CQ2 HL2 HM2 HB2 hb3
    go_upto_region 10 with fail
    have hb4 := below_allocG wc (Obj.cells #[.int .i64 (n : Int), .int .i64 (ck : Int), .string ⟨#[110, 111, 119, 32, 97, 98]⟩] 49)
    have hk4 := new_blk wc #[.int .i64 (n : Int), .int .i64 (ck : Int), .string ⟨#[110, 111, 119, 32, 97, 98]⟩] 49
    obtain ⟨w4, hw4⟩ : ∃ w4, w4 = wc.alloc (Obj.cells #[.int .i64 (n : Int), .int .i64 (ck : Int), .string ⟨#[110, 111, 119, 32, 97, 98]⟩] 49) := ⟨_, rfl⟩
    obtain ⟨nb, hnb⟩ : ∃ nb, nb = wc.heap.size := ⟨_, rfl⟩
    rw [← hw4] at hb4 hk4 ⊢
    rw [← hnb] at hk4 ⊢
    have hl4 := hl3.below hb4
    have hm4 := hm3.below hb4
    have hB4 := hB3.trans (belowB hb4 hBw3)
    have hBw4 : B ≤ w4.heap.size := Nat.le_trans hBw3 hb4.size
    have hrn : ρ2 nb = 0 := hl3.free (by omega)
    have hnv : some nb ≠ (Value.slice va n vc).ownBlock := fun q => by
      have := (own_block hm3.row q).2.1
      omega
    clear hl3 hm3 hB3 y0 y1 y2 hb4 hw4 hnb
    obtain ⟨c9, _⟩ := cell_of (j := 9) (u := .int .i64 (c0 : Int)) hm4.blk (hblk9 _)
    obtain ⟨c11, _⟩ := cell_of (j := 11) (u := .int .i64 (tk : Int)) hm4.blk (hblk11 _)
    obtain ⟨x1, _⟩ := cell_of (j := 1) (u := .int .i64 (ck : Int)) hk4 rfl
    obtain ⟨x2, _⟩ := cell_of (j := 2) (u := .string ⟨#[110, 111, 119, 32, 97, 98]⟩) hk4 rfl
    have q9 := cell_regrown c9
    have q11 := cell_regrown c11
    have p1 := cell_regrown x1
    have p2 := cell_regrown x2
    have HL4 := hide hl4
    have HM4 := hide hm4
    have HK4 := hide hk4
    have HB4 := hide hB4
    clear hl4 hm4 hk4 hB4
    have hwr : IntKind.i64.wrap ((c0 : Int) + (tk : Int)) = (c0 : Int) + (tk : Int) := by rw [IntKind.wrap_i64]; omega
    go_cut [94] from 53 (fun v wx => v = .bool false ∧ Below w4.heap.size w4 wx)
    case first =>
      by_cases hcc : ck = c0
      · have b0 : ((ck : Int) != (c0 : Int)) = false := by simp [hcc]
        have b0' : decide (¬ (ck : Int) = (c0 : Int)) = false := by simp [hcc]
        refine wp_region_quiet_below (by kernel_rfl) (by kernel_rfl) ?_
        repeat (go_big_quiet_step (fail))
        refine wpQuiet_nil ?_
        intro _ hw'
        obtain ⟨⟨dq, osq⟩, hw''⟩ := hw'
        subst hw''
        go_wp2_with fail
        go_meet
        exact ⟨rfl, below_regrown w4 dq osq⟩
      · have b0 : ((ck : Int) != (c0 : Int)) = true := by simp; omega
        have b0' : decide (¬ (ck : Int) = (c0 : Int)) = true := by simp; omega
        have b1 : ((ck : Int) != (c0 : Int) + (tk : Int)) = false := by simp; omega
        have b1' : decide (¬ (ck : Int) = (c0 : Int) + (tk : Int)) = false := by simp; omega
        refine wp_region_quiet_below (by kernel_rfl) (by kernel_rfl) ?_
        repeat (go_big_quiet_step (fail))
        refine wpQuiet_nil ?_
        intro _ hw'
        obtain ⟨⟨dq, osq⟩, hw''⟩ := hw'
        subst hw''
        go_wp2_with fail
        go_meet
        exact ⟨rfl, below_regrown w4 dq osq⟩
    case rest =>
      obtain ⟨rfl, hb5⟩ := hcut
      have hl5 := HL4.out.below hb5
      have hm5 := HM4.out.below hb5
      have hBw5 : B ≤ wc.heap.size := Nat.le_trans hBw4 hb5.size
      have hB5 := HB4.out.trans (belowB hb5 hBw4)
      have hk5 : wc.heap[nb]? = some (Obj.cells #[.int .i64 (n : Int), .int .i64 (ck : Int), .string ⟨#[110, 111, 119, 32, 97, 98]⟩] 49 (0, 0)) := (hb5.block nb (Array.getElem?_eq_some_iff.1 HK4.out).1).trans HK4.out
      have hnlt : nb < wc.heap.size := (Array.getElem?_eq_some_iff.1 hk5).1
      clear c9 c11 x1 x2 q9 q11 p1 p2 HL4 HM4 HK4 HB4 hb5
      obtain ⟨c8, f8⟩ := cell_of (j := 8) (u := .slice va n vc) hm5.blk rfl
      obtain ⟨x0, _⟩ := cell_of (j := 0) (u := .int .i64 (n : Int)) hk5 rfl
      obtain ⟨x1, _⟩ := cell_of (j := 1) (u := .int .i64 (ck : Int)) hk5 rfl
      obtain ⟨x2, _⟩ := cell_of (j := 2) (u := .string ⟨#[110, 111, 119, 32, 97, 98]⟩) hk5 rfl
      have c8' := cellA (o := Obj.cells #[.int .i64 (n : Int), .int .i64 (ck : Int), .string ⟨#[110, 111, 119, 32, 97, 98]⟩] 49) c8
      have hrow5 := hm5.row
      rw [HAL.out] at hrow5
      have HROW := hide hrow5
      have HL5 := hide hl5
      have HM5 := hide hm5
      have HB5 := hide hB5
      have HK5 := hide hk5
      clear hl5 hm5 hB5 hrow5 hk5
      go_upto_region 12 with fail
      go_region_law (refine step_own_at _ rfl _ _ 33 rfl B 49 i0 (.agg #[.int .i64 0, .int .i64 0, .string ByteArray.empty]) 3 32 Tryz.underlying33 hi0 hz0 hz1 hz2 rfl (by decide) _ _ _ rfl (by exact HROW.out.alloc _) ⟨wc.heap.size, 0, none⟩ 1 1 [.int .i64 (n : Int), .int .i64 (ck : Int), .string ⟨#[110, 111, 119, 32, 97, 98]⟩] rfl rfl (by exact cell_three_new wc.drew _ _ _ _) (by intro u hu; simp at hu; rcases hu with rfl | rfl | rfl <;> rfl) (by unfold maxLen; omega) (by omega) (by simp; omega) ?_; intro v5 W5 o5 g5 n5; obtain ⟨a5, c5, rfl, hc5, hm5⟩ := own_slice o5; have g6 : (wc.alloc (Obj.cells #[.int .i64 (n : Int), .int .i64 (ck : Int), .string ⟨#[110, 111, 119, 32, 97, 98]⟩] 49)).grownBy W5 (Value.slice va n vc).ownBlock := ⟨g5.os, g5.tape, g5.output, g5.size, g5.block⟩; have KM := hide (ShM.more (e := ⟨(n : Int), (ck : Int), ⟨#[110, 111, 119, 32, 97, 98]⟩⟩) HL5.out HM5.out hBw5 (by rw [HAL.out]; exact o5) g6 n5); obtain ⟨fb, ff⟩ := cell_of (j := 8) (u := .slice va n vc) KM.out.1 rfl; have hkn : W5.heap[nb]? = some (Obj.cells #[.int .i64 (n : Int), .int .i64 (ck : Int), .string ⟨#[110, 111, 119, 32, 97, 98]⟩] 49 (0, 0)) := by { rw [g6.block nb (by simp; omega) hnv, Mth.hAO wc _ (r := nb) hnlt]; exact HK5.out }; have HKN := hide hkn; clear o5 g5 g6 n5 hkn)
      all_goals (
        obtain ⟨kb, k2, k3, k4⟩ := KM.out
        rw [shC_all] at k3
        have hnsb : nb ≠ sb := fun q => absurd (cells_ty (by rw [← q]; exact HKN.out) kb) (by decide)
        have hkn2 : (W5.setCell ⟨sb, 8, none⟩ (.slice a5 (n + 1) c5)).heap[nb]? = some (Obj.cells #[.int .i64 (n : Int), .int .i64 (ck : Int), .string ⟨#[110, 111, 119, 32, 97, 98]⟩] 49 (0, 0)) := (set_other hnsb).trans HKN.out
        obtain ⟨z1, _⟩ := cell_of (j := 1) (u := .int .i64 (ck : Int)) hkn2 rfl
        obtain ⟨d9, _⟩ := cell_of (j := 9) (u := .int .i64 (c0 : Int)) k3.blk (hblk9 _)
        have FIN : Hid (∀ W, Below (W5.setCell ⟨sb, 8, none⟩ (.slice a5 (n + 1) c5)).heap.size (W5.setCell ⟨sb, 8, none⟩ (.slice a5 (n + 1) c5)) W → LtR w W ρ B N lb sb hb G L c0 all tls tv) := fun W hW => HLT.out W ρ2 G2 _ (k2.below hW) (k3.below hW) HG2.out (HB5.out.trans (k4.trans (belowB hW (Nat.le_trans hBw5 k4.size))))
        clear KM k2 k3 k4 kb HKN hkn2 c8 c8' f8 fb ff x0 x1 x2
        generalize W5.setCell ⟨sb, 8, none⟩ (.slice a5 (n + 1) c5) = W6 at *
        have q9 := cell_regrown d9
        have p1 := cell_regrown z1
        by_cases hcc : ck = c0
        · have b0 : ((ck : Int) != (c0 : Int)) = false := by simp [hcc]
          have b0' : decide (¬ (ck : Int) = (c0 : Int)) = false := by simp [hcc]
          have b1 : decide (¬ ck = c0) = false := by simp [hcc]
          go_upto_region 13 with fail
          refine wp_region_quiet_below (by kernel_rfl) (by kernel_rfl) ?_
          repeat (go_big_quiet_step (fail))
          refine wpQuiet_nil ?_
          intro _ hw'
          obtain ⟨⟨dq, osq⟩, hw''⟩ := hw'
          subst hw''
          go_wp2_with fail
          go_ret
          exact ⟨by rw [b1]; rfl, FIN.out _ (below_regrown W6 dq osq)⟩
        · have b0 : ((ck : Int) != (c0 : Int)) = true := by simp; omega
          have b0' : decide (¬ (ck : Int) = (c0 : Int)) = true := by simp; omega
          have b1 : decide (¬ ck = c0) = true := by simp [hcc]
          go_upto_region 13 with fail
          refine wp_region_quiet_below (by kernel_rfl) (by kernel_rfl) ?_
          repeat (go_big_quiet_step (fail))
          refine wpQuiet_nil ?_
          intro _ hw'
          obtain ⟨⟨dq, osq⟩, hw''⟩ := hw'
          subst hw''
          go_wp2_with fail
          go_ret
          exact ⟨by rw [b1]; rfl, FIN.out _ (below_regrown W6 dq osq)⟩)
end Go.Proofs.YtkncboinfcnklabGreatDoor.Kq

namespace Go.Proofs.YtkncboinfcnklabGreatDoor
open Go.RowKit Go.Deep Go.Shelf Go.Proofs.YtkncboinfcnklabGreatDoor.Mth

/-! A region whose last operation z writes what others read: what is held of the world need not hold behind z, for z waits for all that read. -/
section
variable {P : Program} {ops : Array Oper} {Q : Exit → Act → World → Prop} {md : Region.Mode} {S : World → Prop} {z : Nat}
def wpZ (P : Program) (md : Region.Mode) (ops : Array Oper) (Q : Exit → Act → World → Prop) (S : World → Prop) (z : Nat) : Nat → Array Bool → Act → World → Prop
  | 0, listed, a, w => Region.ready md ops listed = [] ∧ Q .normal a w
  | f + 1, listed, a, w => (Region.ready md ops listed = [] → Q .normal a w) ∧ ∀ i ∈ Region.ready md ops listed, wpOp P ops Q i (fun a' w' => (i = z ∨ S w') ∧ wpZ P md ops Q S z f (listed.setIfInBounds i true) a' w') a w
theorem wpZ_any : ∀ (f : Nat) (listed : Array Bool) (a : Act) (w : World), wpZ P md ops Q S z f listed a w → wpAny P md ops Q f listed a w
  | 0, _, _, _, h => h
  | f + 1, _, _, _, h => ⟨h.1, fun i hi => wpOp_mono (fun a' w' h' => wpZ_any f _ a' w' h'.2) (h.2 i hi)⟩
theorem wp_region_z {id : Nat} {a : Act} {w : World} (hm : P.follows .mixedOrders = true) (h : wpZ P .any ops Q S z ops.size (Array.replicate ops.size false) a w.drew) : (Code.region id ops true).wp P Q a w :=
  wp_region_any hm (wpZ_any _ _ _ _ h)
/-- What has come up had nothing to wait for. -/
def Clo (md : Region.Mode) (ops : Array Oper) (listed : Array Bool) : Prop := ∀ j oj, ops[j]? = some oj → listed.getD j false = true → ∀ e ∈ oj.after, Region.binds md e = true → listed.getD e.on false = true
def cloB (md : Region.Mode) (ops : Array Oper) (listed : Array Bool) : Bool := (List.range ops.size).all fun j => match ops[j]? with
  | some o => !(listed.getD j false) || o.after.all (fun e => !(Region.binds md e) || listed.getD e.on false)
  | none => true
theorem cloB_spec {listed : Array Bool} (h : cloB md ops listed = true) : Clo md ops listed := by
  intro j oj hj hl e he hb
  have hlt := (Array.getElem?_eq_some_iff.1 hj).1
  have h1 := List.all_eq_true.1 h j (List.mem_range.2 hlt)
  simp only [hj, hl, Bool.not_true, Bool.false_or] at h1
  have h2 := Array.all_eq_true'.1 h1 e he
  simp only [hb, Bool.not_true, Bool.false_or] at h2
  exact h2
theorem Clo.set {listed : Array Bool} (h : Clo md ops listed) {i : Nat} (hi : i ∈ Region.ready md ops listed) : Clo md ops (listed.setIfInBounds i true) := by
  obtain ⟨_, oi, hoi, hall⟩ := mem_ready.1 hi
  intro j oj hj hl e he hb
  by_cases q : i = j
  · subst q
    rw [hoi] at hj
    injection hj with hj
    subst hj
    exact getD_set_true (hall e he hb)
  · rw [getD_set_ne false q] at hl
    exact getD_set_true (h j oj hj hl e he hb)
/-- z waits for i: itself, or by one that it waits for. -/
def waitB (md : Region.Mode) (ops : Array Oper) (oz : Oper) (i : Nat) : Bool := oz.after.any fun e => Region.binds md e && (e.on == i || match ops[e.on]? with
  | some o => o.after.any (fun e' => Region.binds md e' && e'.on == i)
  | none => false)
theorem wpZ_first {i : Nat} {oi oz : Oper} {v : Value} (hi : ops[i]? = some oi) (hz : ops[z]? = some oz) (hw : waitB md ops oz i = true) (hsel : ∀ (j : Nat) (o : Oper) cs b, ops[j]? = some o → o.op ≠ .select cs b) (hQ : ∀ c a w, Q (.panic c) (a.put oi.dst v) w → Q (.panic c) a w) :
    ∀ (f : Nat) (listed : Array Bool) (a : Act) (w : World), Clo md ops listed → (∀ j oj, ops[j]? = some oj → j ≠ i → listed.getD j true = false → (∀ e ∈ oj.after, Region.binds md e = true → e.on ≠ i) → oi.apart ops oj = true) → i ∈ Region.ready md ops listed → YieldsIf P ops S oi v a → S w → wpZ P md ops Q S z f (listed.setIfInBounds i true) (a.put oi.dst v) w → wpZ P md ops Q S z (f + 1) listed a w := by
  have away : ∀ (listed : Array Bool) (j : Nat) (oj : Oper), i ∈ Region.ready md ops listed → j ∈ Region.ready md ops listed → ops[j]? = some oj → ∀ e ∈ oj.after, Region.binds md e = true → e.on ≠ i := by
    intro listed j oj hr hj hoj e he hb heq
    obtain ⟨_, oj', hoj', hall⟩ := mem_ready.1 hj
    rw [hoj] at hoj'
    injection hoj' with hoj'
    subst hoj'
    have h1 := hall e he hb
    have h0 := (mem_ready.1 hr).1
    rw [heq] at h1
    rcases Nat.lt_or_ge i listed.size with q | q
    · simp [q] at h0 h1
      rw [h0] at h1
      cases h1
    · simp [Array.getElem?_eq_none q] at h1
  have noz : ∀ (listed : Array Bool), Clo md ops listed → i ∈ Region.ready md ops listed → ¬ z ∈ Region.ready md ops listed := fun listed hc hr hj => by
    unfold waitB at hw
    obtain ⟨e, he, hb⟩ := Array.any_eq_true'.1 hw
    rw [Bool.and_eq_true, Bool.or_eq_true] at hb
    rcases hb with ⟨hb, hon | hon⟩
    · exact away listed z oz hr hj hz e he hb (by simpa using hon)
    · cases ho : ops[e.on]? with
      | none => rw [ho] at hon; cases hon
      | some o' =>
        rw [ho] at hon
        obtain ⟨e', he', hb'⟩ := Array.any_eq_true'.1 hon
        simp only [Bool.and_eq_true, beq_iff_eq] at hb'
        obtain ⟨_, oz', hoz', hall⟩ := mem_ready.1 hj
        rw [hz] at hoz'
        injection hoz' with hoz'
        subst hoz'
        have h1 := hc e.on o' ho (hall e he hb) e' he' hb'.1
        have h0 := (mem_ready.1 hr).1
        rw [hb'.2] at h1
        rcases Nat.lt_or_ge i listed.size with q | q
        · simp [q] at h0 h1
          rw [h0] at h1
          cases h1
        · simp [Array.getElem?_eq_none q] at h1
  intro f
  induction f with
  | zero =>
    intro listed a w _ _ hr hy hS H
    refine ⟨fun q => (by rw [q] at hr; cases hr), fun j hj => ?_⟩
    by_cases e : j = i
    · subst e
      exact hy.wpOp hi hS ⟨Or.inr hS, H⟩
    · have := ready_mono hj e
      rw [H.1] at this
      cases this
  | succ f ih =>
    intro listed a w hc hfree hr hy hS H
    refine ⟨fun q => (by rw [q] at hr; cases hr), fun j hj => ?_⟩
    by_cases e : j = i
    · subst e
      exact hy.wpOp hi hS ⟨Or.inr hS, H⟩
    · have hjz : ¬ j = z := fun q => noz listed hc hr (by rw [← q]; exact hj)
      obtain ⟨hun, oj, hoj, _⟩ := mem_ready.1 hj
      have h2 := wpOp_putIf hoj (hfree j oj hoj e hun (away listed j oj hr hj hoj)) (fun cs b => hsel i oi cs b hi) (fun cs b => hsel j oj cs b hoj) hQ hy (H.2 j (ready_mono hj e))
      refine wpOp_mono (fun a' w' h3 => ?_) h2
      have hS' : S w' := h3.2.1.resolve_left hjz
      refine ⟨Or.inr hS', ih (listed.setIfInBounds j true) a' w' (hc.set hj) (fun k ok hk hki hu hno => hfree k ok hk hki ?_ hno) (ready_mono hr (fun q => e q.symm)) h3.1 hS' ?_⟩
      · by_cases q : j = k
        · rw [← q]; exact hun
        · rw [getD_set_ne true q] at hu; exact hu
      · rw [Array.setIfInBounds_comm _ _ e]
        exact h3.2.2
/-- Number i first; d is where it puts its value. -/
theorem wpZ_take (z i : Nat) (d : Option Nat) {v : Value} {f : Nat} {listed : Array Bool} {a : Act} {w : World} (hd : (ops[i]?).map (·.dst) = some d) (hw : (match ops[z]? with | some oz => waitB md ops oz i | none => false) = true) (hc : cloB md ops listed = true) (hs : Region.noSelect ops = true) (hf : Region.free md ops listed i = true) (hr : (Region.ready md ops listed).contains i = true) (hQ : ∀ c a w, Q (.panic c) (a.put d v) w → Q (.panic c) a w) (hS : S w) (hy : ∀ o, ops[i]? = some o → YieldsIf P ops S o v a) (h : wpZ P md ops Q S z f (listed.setIfInBounds i true) (a.put d v) w) : wpZ P md ops Q S z (f + 1) listed a w := by
  cases hi : ops[i]? with
  | none => rw [hi] at hd; cases hd
  | some oi =>
    rw [hi] at hd
    injection hd with hd
    cases hz : ops[z]? with
    | none => rw [hz] at hw; cases hw
    | some oz =>
      rw [hz] at hw
      subst hd
      exact wpZ_first hi hz hw (Region.noSelect_spec hs) hQ f listed a w (cloB_spec hc) (Region.free_spec hi hf) (by simpa using hr) (hy oi hi) hS h
/-- Number i is the only one that may come up. -/
theorem wpZ_step (i : Nat) {f : Nat} {listed : Array Bool} {a : Act} {w : World} (hi : (ops[i]?).isSome = true) (hr : Region.ready md ops listed = [i]) (h : ∀ o, ops[i]? = some o → ∀ K : Act → World → Prop, (∀ a' w', (i = z ∨ S w') → wpZ P md ops Q S z f (listed.setIfInBounds i true) a' w' → K a' w') → if Region.wanted o (yielded ops a.tmps) = true then Oper.wp P o a w K Q else K (a.put o.dst undef) w) : wpZ P md ops Q S z (f + 1) listed a w := by
  obtain ⟨o, ho⟩ := Option.isSome_iff_exists.1 hi
  refine ⟨fun q => (by rw [q] at hr; cases hr), fun j hj => ?_⟩
  rw [hr, List.mem_singleton] at hj
  subst hj
  have h1 := h o ho (fun a' w' => (j = z ∨ S w') ∧ wpZ P md ops Q S z f (listed.setIfInBounds j true) a' w') (fun a' w' q1 q2 => ⟨q1, q2⟩)
  unfold wpOp
  simp only [ho]
  split
  · rename_i q
    rw [if_pos q] at h1
    exact Or.inl h1
  · rename_i q
    rw [if_neg q] at h1
    exact h1
theorem wpZ_done {listed : Array Bool} {a : Act} {w : World} (hr : Region.ready md ops listed = []) (h : Q .normal a w) : ∀ f, wpZ P md ops Q S z f listed a w
  | 0 => ⟨hr, h⟩
  | _ + 1 => ⟨fun _ => h, by rw [hr]; simp⟩
end
end Go.Proofs.YtkncboinfcnklabGreatDoor
