import Derived.Test.YtkncboinfcnklabGreatDoorQ32
namespace Go.Proofs.YtkncboinfcnklabGreatDoor.Kq
open Go.RowKit Go.Deep Go.Shelf Go.Proofs.YtkncboinfcnklabGreatDoor.Mth Go.Proofs.YtkncboinfcnklabGreatDoor.Kp

theorem Tryz.info60 : (Tryz.prog.info? 60).map (fun i => (i.zero, i.size, i.bytes)) = some (some (.agg #[.int .i64 0, .string ⟨#[]⟩, .int .i64 0, .bool false]), 4, 40) := by kernel_rfl
/-- A follower more. -/
theorem ShM.moreT {w W5 : World} {ρ : Nat → Nat} {B N lb sb : Nat} {hb : Xt} {G : Gh} {L : Lg} {C : Array Value} {all : List Ent} {tls : List Fo} {av tv v5 : Value} {f : Fo} {o : Obj} (hl : LogAt w ρ B N lb G L) (h : ShM w ρ B sb hb C all tls av tv) (hB : B ≤ w.heap.size)
    (o5 : W5.ownsRow B 60 4 v5 (tls.length + 1) (tls.flatMap foC ++ foC f)) (g6 : (w.alloc o).grownBy W5 tv.ownBlock) (n5 : v5.ownBlock = tv.ownBlock ∨ v5.ownBlock = some (w.alloc o).heap.size) :
    W5.heap[sb]? = some (Obj.cells C 37 (0, 0)) ∧ LogAt (W5.setCell ⟨sb, 12, none⟩ v5) ρ B N lb G L ∧ ShM (W5.setCell ⟨sb, 12, none⟩ v5) ρ B sb hb (C.setIfInBounds 12 v5) all (tls ++ [f]) av v5 ∧ Below B w (W5.setCell ⟨sb, 12, none⟩ v5) := by
  have hsb := (Array.getElem?_eq_some_iff.1 h.blk).1
  have hsz5 : w.heap.size ≤ W5.heap.size := by have := g6.size; simp at this; omega
  have hfar : ∀ g, g < w.heap.size → some g ≠ tv.ownBlock → W5.heap[g]? = w.heap[g]? := fun g hg hne => by
    rw [g6.block g (by simp; omega) hne, Mth.hAO w o (r := g) hg]
  have hsbv : some sb ≠ tv.ownBlock := fun q => by
    obtain ⟨_, _, D, hD⟩ := own_block h.trow q
    exact absurd (cells_ty h.blk hD) (by decide)
  have hblk5 := (hfar sb hsb hsbv).trans h.blk
  have hT : Tch (fun k => some k = tv.ownBlock) w W5 := ⟨g6.os, g6.tape, g6.output, hsz5, fun k hk hne => hfar k hk hne⟩
  have hl5 : LogAt W5 ρ B N lb G L := off hl hT (fun k _ q => ⟨h.rt k q, by
    obtain ⟨_, _, D, hD⟩ := own_block h.trow q
    exact notN' hD (by decide)⟩)
  have hm5 : ShM W5 ρ B sb hb C all (tls ++ [f]) av v5 := by
    refine ⟨hblk5, own_same h.row (fun g hg => hfar g (own_block h.row hg).2.1 (fun q => ?_)), by rw [List.length_append, List.flatMap_append]; simpa using o5, h.rs, h.ra, fun g hg => ?_, h.ge, h.x.tch hT (fun k q => by obtain ⟨_, _, D, hD⟩ := own_block h.trow q; exact ⟨_, _, hD, by decide, by decide⟩)⟩
    · obtain ⟨_, _, D, hD⟩ := own_block h.row hg
      obtain ⟨_, _, D', hD'⟩ := own_block h.trow q
      exact absurd (cells_ty hD hD') (by decide)
    · rcases n5 with q | q
      · rw [q] at hg; exact h.rt g hg
      · rw [q] at hg
        injection hg with hg
        exact hl.free (by rw [hg]; simp)
  obtain ⟨a1, a2, a3⟩ := ShM.set hl5 hm5 12 v5
  have hB5 : Below B w W5 := below_tch (Below.refl B w) hT (fun k q => (own_block h.trow q).1) hB
  exact ⟨hblk5, a1, a2, hB5.trans (a3 (Nat.le_trans hB hsz5))⟩
/-- One who follows comes. -/
def Lg.sub (L : Lg) (x : ByteArray) : Lg := { L with tls := fun y => if y = (L.subs : Int) then some (x, L.count) else L.tls y, tn := L.tn + 1, subs := L.subs + 1 }
theorem Inv.sub {L : Lg} {all : List Ent} (h : Inv L all) (x : ByteArray) : Inv (Lg.sub L x) all := by
  refine h.tail (fun z q hq => ?_)
  by_cases e : z = (L.subs : Int)
  · rw [if_pos e] at hq
    injection hq with hq
    subst hq
    exact ⟨Nat.le_refl _, Or.inl rfl⟩
  · rw [if_neg e] at hq
    exact ⟨h.plc z q hq, Or.inr ⟨q, hq, Nat.le_refl _⟩⟩
theorem TlR.sub {L : Lg} {tls : List Fo} {n : Nat} {x : ByteArray} (h : TlR L tls n) (hx : x ∈ wds) (hc : L.count = n) (ht : L.tn < 4) : TlR (Lg.sub L x) (tls ++ [⟨tls.length, x, n, true⟩]) n := by
  have hg : ∀ i, (tls ++ [(⟨tls.length, x, n, true⟩ : Fo)]).getD i fo0 = if i < tls.length then tls.getD i fo0 else if i = tls.length then ⟨tls.length, x, n, true⟩ else fo0 := fun i => by
    by_cases h1 : i < tls.length
    · rw [if_pos h1, List.getD, List.getElem?_append_left h1]; rfl
    · rw [if_neg h1]
      by_cases h2 : i = tls.length
      · rw [if_pos h2, h2]; simp [List.getD]
      · rw [if_neg h2, List.getD, List.getElem?_eq_none (by simp; omega)]; rfl
  refine ⟨fun i hi => ?_, fun i hi => ?_, fun z hz => ?_, by simp [Lg.sub, h.subs], by show L.tn + 1 ≤ 4; omega⟩
  · rw [List.length_append, List.length_singleton] at hi
    rw [hg]
    by_cases h1 : i < tls.length
    · rw [if_pos h1]; exact h.num i h1
    · rw [if_neg h1, if_pos (by omega)]
      exact ⟨by simp only; omega, hx, Nat.le_refl _⟩
  · rw [List.length_append, List.length_singleton] at hi
    rw [hg]
    show (if (i : Int) = (L.subs : Int) then some (x, L.count) else L.tls (i : Int)) = _
    by_cases h1 : i < tls.length
    · rw [if_pos h1, if_neg (by rw [h.subs]; omega)]; exact h.at_ i h1
    · have hie : i = tls.length := by omega
      rw [if_neg h1, if_pos hie]
      show (if (i : Int) = (L.subs : Int) then some (x, L.count) else L.tls (i : Int)) = some (x, n)
      rw [if_pos (by rw [h.subs]; omega), hc]
  · rw [List.length_append, List.length_singleton] at hz
    show (if z = (L.subs : Int) then some (x, L.count) else L.tls z) = none
    rw [if_neg (by rw [h.subs]; omega)]
    exact h.out z (by omega)
theorem cells_four_new (w : World) (a b c d : Value) (t : TypeId) : ∀ j u, [a, b, c, d][j]? = some u → (w.alloc (Obj.cells #[a, b, c, d] t)).cell? ((⟨w.heap.size, 0, none⟩ : Addr).add j) = some u := cells_new w #[a, b, c, d] t _ rfl

set_option maxRecDepth 100000 in
set_option maxHeartbeats 2000000 in
theorem mv_sub {w : World} {ρ : Nat → Nat} {B N M lb sb : Nat} {hb : Xt} {G : Gh} {L : Lg} {all : List Ent} {tls : List Fo} {av tv : Value} (h : Sh w ρ B N M lb sb hb G L all tls av tv) (hB : B ≤ w.heap.size) (ht : TabB B w) (k a b : Int) (s : ByteArray) (hk : I64 k) (ha : I64 a) (hp : pkI k 11 = 6) (htn : L.tn < 4) (hM : M ≤ 400000) (hN : N ≤ 1099511627776) :
    Calls Tryz.prog 10 #[ptrV sb, mvV k a b s] w fun e w' => e = .returned (.tuple #[]) ∧ ShX w w' B (N + 1) (M + 1) lb sb hb (Lg.sub L (wds.getD (pkI a 6).toNat ⟨#[]⟩)) all (tls ++ [⟨tls.length, wds.getD (pkI a 6).toNat ⟨#[]⟩, all.length, true⟩]) := by
  obtain ⟨i0, hi0, hz0, hz1, hz2⟩ := info_parts Tryz.info60
  have hb1 := below_allocG w (mvO k a b s)
  have hk1 := new_blk w #[.int .i64 k, .int .i64 a, .int .i64 b, .string s] 42
  have CK := hide (Kp.pick_any k 11 (w.alloc (mvO k a b s)) hk.1 hk.2 (by omega) (by omega))
  have hbud := h.bud
  have CKa : Hid (∀ W, Calls Tryz.prog 7 #[.int .i64 a, .int .i64 6] W fun e w' => e = .returned (.int .i64 (pkI a 6)) ∧ w' = W) := fun W => Kp.pick_any a 6 W ha.1 ha.2 (by omega) (by omega)
  have hbd := pkI_bd a 6 (by omega)
  have hB1 := belowB hb1 hB
  obtain ⟨q, hq⟩ : ∃ q : Nat, pkI a 6 = (q : Int) := ⟨(pkI a 6).toNat, by omega⟩
  rw [hq] at CKa hbd ⊢
  rw [Int.toNat_natCast]
  have hq6 : q < 6 := by omega
  have hx : wds.getD q ⟨#[]⟩ ∈ wds := by
    rw [← List.getElem_eq_getD (h := by simpa [wds] using hq6)]
    exact List.getElem_mem _
  have h1 := h.below hb1
  obtain ⟨w1, hw1⟩ : ∃ w1, w1 = w.alloc (mvO k a b s) := ⟨_, rfl⟩
  obtain ⟨nb, hnb⟩ : ∃ nb, nb = w.heap.size := ⟨_, rfl⟩
  rw [← hw1] at hk1 CK hb1 hB1 h1
  rw [← hnb] at hk1
  have hnlt : nb < w1.heap.size := (Array.getElem?_eq_some_iff.1 hk1).1
  have hxs := wds_wd hx
  have hsub0 : L.tls (L.subs : Int) = none := h.tl.out _ (Or.inr (by rw [h.tl.subs]; omega))
  have CS : Hid (∀ W, Below w1.heap.size w1 W → Calls Tryz.prog 25 #[ptrV lb, .string (wds.getD q ⟨#[]⟩)] W fun e w' => e = .returned (.tuple #[.int .i64 (tls.length : Int), .int .i64 0]) ∧ LogAt w' ρ B (N + 1) lb G (Lg.sub L (wds.getD q ⟨#[]⟩)) ∧ ShM w' ρ B sb hb (shC lb hb L av tv) all tls av tv ∧ Below B w w') := by
    intro W hb'
    have hBW : Below B w W := hB1.trans (belowB hb' (Nat.le_trans hB hB1.size))
    have := sub_yes (h1.below hb').log (ht.next hBW).now (wds.getD q ⟨#[]⟩) (by omega) (wds_isWd hx) htn (by unfold maxLen; omega) (by rw [h.tl.subs]; omega) hsub0
    refine Calls.mono this ?_
    rintro e w' ⟨rfl, hT⟩
    exact ⟨by rw [h.tl.subs], hT.log, (h1.below hb').mem.keep hT.stp, hBW.trans (below_lstp (Below.refl B W) hT.stp (h1.below hb').log.x.lt (Nat.le_trans hB hBW.size))⟩
  have HI := hide (Inv.sub h.inv (wds.getD q ⟨#[]⟩))
  have HTL := hide (h.tl.sub hx h.inv.cnt htn)
  have hlf : Dk hb G (M + 1) (Lg.sub L (wds.getD q ⟨#[]⟩)).clock all := h.dk.mono (M' := M + 1) (by omega) rfl rfl rfl rfl
  have HSC : Hid (∀ av tv, shC lb hb (Lg.sub L (wds.getD q ⟨#[]⟩)) av tv = shC lb hb L av tv) := fun _ _ => rfl
  have RD : Hid (∀ W, Below w1.heap.size w1 W → W.cell? ⟨sb, 0, none⟩ = some (ptrV lb)) := fun W hb' => ((h1.below hb').cell (j := 0) rfl).1
  obtain ⟨c0, _⟩ := cell_of (j := 0) (u := .int .i64 k) hk1 rfl
  obtain ⟨c1, _⟩ := cell_of (j := 1) (u := .int .i64 a) hk1 rfl
  obtain ⟨va, vc, hva, hvc, hvm⟩ := own_slice h.mem.trow
  obtain ⟨ua, uc, hua, huc, hum⟩ := own_slice h.mem.row
  subst hva hua
  have HW1 := hide hw1
  have HNB := hide hnb
  unfold maxLen at hvm hum
  have hbw := below_allocG w1.drew (Obj.cells #[.string ⟨#[97]⟩, .string ⟨#[98]⟩, .string ⟨#[97, 98]⟩, .string ⟨#[100, 105, 115, 107]⟩, .string ⟨#[49]⟩, .string ⟨#[120, 57]⟩] 9)
  have hwa := word_at w1.drew q hq6
  have CW := hide (Kp.words_any w1.drew)
  have cA := ((hbw.cell (p := ⟨nb, 1, none⟩) hnlt).trans c1 : _)
  obtain ⟨w2, hw2⟩ : ∃ w2, w2 = w1.drew.alloc (Obj.cells #[.string ⟨#[97]⟩, .string ⟨#[98]⟩, .string ⟨#[97, 98]⟩, .string ⟨#[100, 105, 115, 107]⟩, .string ⟨#[49]⟩, .string ⟨#[120, 57]⟩] 9) := ⟨_, rfl⟩
  rw [← hw2] at hwa CW hbw cA
  have HB2 : Hid (Below w1.heap.size w1 w2) := below_drew1 hbw
  have d0 := RD.out w2 HB2.out
  have hwa : w2.cell? ⟨w1.heap.size, q, none⟩ = some (.string (wds.getD q ⟨#[]⟩)) := hwa
  clear h h1 hb1 hk1 hB1 hw1 hnb hsub0 ht hbw hw2
  rw [hp] at CK
  clear hp
  generalize hLS : Lg.sub L (wds.getD q ⟨#[]⟩) = LS at *
  generalize wds.getD q ⟨#[]⟩ = x at *
  have HX := hide hx
  clear hx hLS
  go_enter Tryz.func10, Tryz.ntmps10
  go_upto_region 1 with fail
  rw [← HW1.out, ← HNB.out]
  go_upto_region 13 with (first
    | (go_at_call 7; refine CK.out.mono ?_; rintro e w' ⟨rfl, hw'⟩; rw [hw']; clear hw' w'))
  go_region_law (first
    | (rw [if_pos (by simp [Region.wanted])]; go_simp; go_at_call 7; refine (CKa.out _).mono ?_; rintro e w' ⟨rfl, hw'⟩; rw [hw']; clear hw' w')
    | (rw [if_pos (by simp [Region.wanted])]; go_simp; go_at_call 11; refine CW.out.mono ?_; rintro e w' ⟨rfl, hw'⟩; rw [hw']; clear hw' w'))
  all_goals (
    go_upto_region 16 with (first
      | (go_at_call 25; refine (CS.out _ HB2.out).mono ?_; rintro e w3 ⟨rfl, hl3, hm3, hB3⟩; obtain ⟨c12, f12⟩ := cell_of (j := 12) (u := .slice va tls.length vc) hm3.blk rfl; obtain ⟨c8, _⟩ := cell_of (j := 8) (u := .slice ua all.length uc) hm3.blk rfl; have HL3 := hide hl3; have HM3 := hide hm3; have HB3 := hide hB3; have HR3 := hide hm3.trow; clear hl3 hm3 hB3))
    have hBw3 : B ≤ w3.heap.size := Nat.le_trans hB HB3.out.size
    have c12' := cellA (o := Obj.cells #[.int .i64 (tls.length : Int), .string x, .int .i64 (all.length : Int), .bool true] 60) c12
    go_region_law (refine step_own_at _ rfl _ _ 35 rfl B 60 i0 (.agg #[.int .i64 0, .string ⟨#[]⟩, .int .i64 0, .bool false]) 4 40 Tryz.underlying35 hi0 hz0 hz1 hz2 rfl (by decide) _ _ _ rfl (by exact HR3.out.alloc _) ⟨w3.heap.size, 0, none⟩ 1 1 [.int .i64 (tls.length : Int), .string x, .int .i64 (all.length : Int), .bool true] rfl rfl (by exact cells_four_new w3.drew _ _ _ _ _) (by intro u hu; simp at hu; rcases hu with rfl | rfl | rfl | rfl <;> rfl) (by unfold maxLen; omega) (by omega) (by simp; omega) ?_; intro v5 W5 o5 g5 n5; obtain ⟨a5, c5, rfl, hc5, hm5⟩ := own_slice o5; have g6 : (w3.alloc (Obj.cells #[.int .i64 (tls.length : Int), .string x, .int .i64 (all.length : Int), .bool true] 60)).grownBy W5 (Value.slice va tls.length vc).ownBlock := ⟨g5.os, g5.tape, g5.output, g5.size, g5.block⟩; have KM := hide (ShM.moreT (f := ⟨tls.length, x, all.length, true⟩) HL3.out HM3.out hBw3 o5 g6 n5); obtain ⟨fb, ff⟩ := cell_of (j := 12) (u := .slice va tls.length vc) KM.out.1 rfl; clear o5 g5 g6 n5)
    all_goals (
      obtain ⟨_, k2, k3, k4⟩ := KM.out
      rw [shC_tls] at k3
      have FIN : Hid (ShX w (W5.setCell ⟨sb, 12, none⟩ (.slice a5 (tls.length + 1) c5)) B (N + 1) (M + 1) lb sb hb LS all (tls ++ [⟨tls.length, x, all.length, true⟩])) := ⟨⟨ρ, G, _, _, k2, by rw [HSC.out]; exact k3, HI.out, hlf, ⟨by omega, by omega, by simp; omega⟩, HTL.out⟩, HB3.out.trans k4⟩
      clear KM k2 k3 k4 c12 c12' c8 fb ff
      generalize W5.setCell ⟨sb, 12, none⟩ (.slice a5 (tls.length + 1) c5) = W6 at *
      go_wp2_with fail
      go_end0
      exact ⟨rfl, FIN.out⟩))
end Go.Proofs.YtkncboinfcnklabGreatDoor.Kq

namespace Go.Proofs.YtkncboinfcnklabGreatDoor.Kq
open Go.RowKit Go.Deep Go.Shelf Go.Proofs.YtkncboinfcnklabGreatDoor.Mth Go.Proofs.YtkncboinfcnklabGreatDoor.Kp

set_option maxRecDepth 100000 in
set_option maxHeartbeats 1000000 in
/-- Polls of a shelf on which nobody follows: nothing. -/
theorem mv_poll0 {w : World} {ρ : Nat → Nat} {B N M lb sb : Nat} {hb : Xt} {G : Gh} {L : Lg} {all : List Ent} {tls : List Fo} {av tv : Value} (h : Sh w ρ B N M lb sb hb G L all tls av tv) (hB : B ≤ w.heap.size) (k a b : Int) (s : ByteArray) (hk : I64 k) (hp : pkI k 11 = 7 ∨ pkI k 11 = 8) (h0 : tls.length = 0) :
    Calls Tryz.prog 10 #[ptrV sb, mvV k a b s] w fun e w' => e = .returned (.tuple #[]) ∧ Mvd w w' B (N + 1) (M + 1) lb sb hb := by
  have hb1 := below_allocG w (mvO k a b s)
  have hk1 := new_blk w #[.int .i64 k, .int .i64 a, .int .i64 b, .string s] 42
  have CK := hide (Kp.pick_any k 11 (w.alloc (mvO k a b s)) hk.1 hk.2 (by omega) (by omega))
  have HF : Hid (Mvd w (w.alloc (mvO k a b s)) B (N + 1) (M + 1) lb sb hb) := ⟨L, all, tls, N, by omega, (h.shx hB hb1).mono (by omega)⟩
  have h1 := h.below hb1
  obtain ⟨va, vc, hva, hvc, hvm⟩ := own_slice h1.mem.trow
  subst hva
  obtain ⟨d12, _⟩ := h1.cell (j := 12) (u := .slice va tls.length vc) rfl
  rw [h0] at d12
  obtain ⟨w1, hw1⟩ : ∃ w1, w1 = w.alloc (mvO k a b s) := ⟨_, rfl⟩
  obtain ⟨nb, hnb⟩ : ∃ nb, nb = w.heap.size := ⟨_, rfl⟩
  rw [← hw1] at hk1 CK HF d12
  rw [← hnb] at hk1
  obtain ⟨c0, _⟩ := cell_of (j := 0) (u := .int .i64 k) hk1 rfl
  have HW1 := hide hw1
  have HNB := hide hnb
  clear h h1 hb1 hk1 hw1 hnb h0
  generalize pkI k 11 = kk at *
  rcases hp with rfl | rfl
  all_goals (
    go_enter Tryz.func10, Tryz.ntmps10
    go_upto_region 1 with fail
    rw [← HW1.out, ← HNB.out]
    go_wp2_with (first
      | (go_at_call 7; refine CK.out.mono ?_; rintro e w' ⟨rfl, hw'⟩; rw [hw']; clear hw' w'))
    go_end0
    exact ⟨rfl, HF.out⟩)

theorem polls_any {w : World} {ρ : Nat → Nat} {B N M lb sb : Nat} {hb : Xt} {G : Gh} {L : Lg} {all : List Ent} {tls : List Fo} {av tv : Value} (h : Sh w ρ B N M lb sb hb G L all tls av tv) (hB : B ≤ w.heap.size) {i : Nat} (hi : i < tls.length) (hM : M ≤ 400000) (hN : N ≤ 1099511627776) :
    Calls Tryz.prog 20 #[ptrV sb, .int .i64 (i : Int)] w fun e w' => e = .returned (.tuple #[]) ∧ Mvd w w' B (N + 1) (M + 1) lb sb hb := by
  cases hth : (tls.getD i fo0).there with
  | false =>
    refine (polls_no h hB hi hth hM).mono ?_
    rintro e w' ⟨rfl, hx⟩
    exact ⟨rfl, L, all, tls, N, by omega, hx.mono (by omega)⟩
  | true =>
    refine (polls_yes h hB hi hth hM hN).mono ?_
    rintro e w' ⟨rfl, hx⟩
    exact ⟨rfl, _, all, _, N + 1, by omega, hx.mono (by omega)⟩

set_option maxRecDepth 100000 in
set_option maxHeartbeats 1000000 in
theorem mv_poll {w : World} {ρ : Nat → Nat} {B N M lb sb : Nat} {hb : Xt} {G : Gh} {L : Lg} {all : List Ent} {tls : List Fo} {av tv : Value} (h : Sh w ρ B N M lb sb hb G L all tls av tv) (hB : B ≤ w.heap.size) (k a b : Int) (s : ByteArray) (hk : I64 k) (ha : I64 a) (hp : pkI k 11 = 7) (h0 : 0 < tls.length) (hM : M ≤ 400000) (hN : N ≤ 1099511627776) :
    Calls Tryz.prog 10 #[ptrV sb, mvV k a b s] w fun e w' => e = .returned (.tuple #[]) ∧ Mvd w w' B (N + 1) (M + 1) lb sb hb := by
  have hb1 := below_allocG w (mvO k a b s)
  have hk1 := new_blk w #[.int .i64 k, .int .i64 a, .int .i64 b, .string s] 42
  have CK := hide (Kp.pick_any k 11 (w.alloc (mvO k a b s)) hk.1 hk.2 (by omega) (by omega))
  have hbud := h.bud
  have CKa : Hid (∀ W, Calls Tryz.prog 7 #[.int .i64 a, .int .i64 (tls.length : Int)] W fun e w' => e = .returned (.int .i64 (pkI a (tls.length : Int))) ∧ w' = W) := fun W => Kp.pick_any a (tls.length : Int) W ha.1 ha.2 (by omega) (by omega)
  have hbd := pkI_bd a (tls.length : Int) (by omega)
  have hB1 := belowB hb1 hB
  have hcast : ((pkI a (tls.length : Int)).toNat : Int) = pkI a (tls.length : Int) := by omega
  have h1 := h.below hb1
  obtain ⟨va, vc, hva, hvc, hvm⟩ := own_slice h.mem.trow
  subst hva
  obtain ⟨w1, hw1⟩ : ∃ w1, w1 = w.alloc (mvO k a b s) := ⟨_, rfl⟩
  obtain ⟨nb, hnb⟩ : ∃ nb, nb = w.heap.size := ⟨_, rfl⟩
  rw [← hw1] at hk1 CK hb1 hB1 h1
  rw [← hnb] at hk1
  have hBd : Below B w w1.drew := hB1.trans (belowB (drewB w1) (Nat.le_trans hB hB1.size))
  have CS0 := polls_any (h1.below (drewB w1)) (Nat.le_trans hB hBd.size) (i := (pkI a (tls.length : Int)).toNat) (by omega) hM hN
  rw [hcast] at CS0
  have CS : Hid (Calls Tryz.prog 20 #[ptrV sb, .int .i64 (pkI a (tls.length : Int))] w1.drew fun e w' => e = .returned (.tuple #[]) ∧ Mvd w w' B (N + 1) (M + 1) lb sb hb) := by
    refine Calls.mono CS0 ?_
    rintro e w' ⟨rfl, L', all', tls', N', hN', hx⟩
    exact ⟨rfl, L', all', tls', N', hN', hx.pre hBd⟩
  obtain ⟨c0, _⟩ := cell_of (j := 0) (u := .int .i64 k) hk1 rfl
  obtain ⟨c1, _⟩ := cell_of (j := 1) (u := .int .i64 a) hk1 rfl
  obtain ⟨d12, _⟩ := h1.cell (j := 12) (u := .slice va tls.length vc) rfl
  have h0I : (0 : Int) < (tls.length : Int) := by omega
  have HW1 := hide hw1
  have HNB := hide hnb
  unfold maxLen at hvm
  clear h h1 hb1 hk1 hB1 CS0 hw1 hnb hcast hBd
  rw [hp] at CK
  clear hp
  generalize pkI a (tls.length : Int) = aa at *
  generalize tls.length = nw at *
  go_enter Tryz.func10, Tryz.ntmps10
  go_upto_region 1 with fail
  rw [← HW1.out, ← HNB.out]
  go_upto_region 21 with (first
    | (go_at_call 7; refine CK.out.mono ?_; rintro e w' ⟨rfl, hw'⟩; rw [hw']; clear hw' w'))
  go_region_law (first
    | (rw [if_pos (by simp [Region.wanted])]; go_simp; go_at_call 7; refine (CKa.out _).mono ?_; rintro e w' ⟨rfl, rfl⟩)
    | (rw [if_pos (by simp [Region.wanted])]; go_simp; go_at_call 20; refine CS.out.mono ?_; rintro e w3 ⟨rfl, hx⟩; have HX := hide hx; clear hx))
  all_goals (
    go_wp2_with fail
    go_end0
    exact ⟨rfl, HX.out⟩)
end Go.Proofs.YtkncboinfcnklabGreatDoor.Kq

namespace Go.Proofs.YtkncboinfcnklabGreatDoor.Kq
open Go.RowKit Go.Deep Go.Shelf Go.Proofs.YtkncboinfcnklabGreatDoor.Mth Go.Proofs.YtkncboinfcnklabGreatDoor.Kp

set_option maxRecDepth 100000 in
set_option maxHeartbeats 2000000 in
theorem mv_many {w : World} {ρ : Nat → Nat} {B N M lb sb : Nat} {hb : Xt} {G : Gh} {L : Lg} {all : List Ent} {tls : List Fo} {av tv : Value} (h : Sh w ρ B N M lb sb hb G L all tls av tv) (hB : B ≤ w.heap.size) (ht : TabB B w) (k a b : Int) (s : ByteArray) (hk : I64 k) (ha : I64 a) (hp : pkI k 11 = 6) (htn : 4 ≤ L.tn) :
    Calls Tryz.prog 10 #[ptrV sb, mvV k a b s] w fun e w' => e = .returned (.tuple #[]) ∧ Mvd w w' B (N + 1) (M + 1) lb sb hb := by
  have hb1 := below_allocG w (mvO k a b s)
  have hk1 := new_blk w #[.int .i64 k, .int .i64 a, .int .i64 b, .string s] 42
  have CK := hide (Kp.pick_any k 11 (w.alloc (mvO k a b s)) hk.1 hk.2 (by omega) (by omega))
  have CKa : Hid (∀ W, Calls Tryz.prog 7 #[.int .i64 a, .int .i64 6] W fun e w' => e = .returned (.int .i64 (pkI a 6)) ∧ w' = W) := fun W => Kp.pick_any a 6 W ha.1 ha.2 (by omega) (by omega)
  have hbd := pkI_bd a 6 (by omega)
  have hB1 := belowB hb1 hB
  obtain ⟨q, hq⟩ : ∃ q : Nat, pkI a 6 = (q : Int) := ⟨(pkI a 6).toNat, by omega⟩
  rw [hq] at CKa hbd
  have hq6 : q < 6 := by omega
  have hx : wds.getD q ⟨#[]⟩ ∈ wds := by
    rw [← List.getElem_eq_getD (h := by simpa [wds] using hq6)]
    exact List.getElem_mem _
  have h1 := h.below hb1
  obtain ⟨w1, hw1⟩ : ∃ w1, w1 = w.alloc (mvO k a b s) := ⟨_, rfl⟩
  obtain ⟨nb, hnb⟩ : ∃ nb, nb = w.heap.size := ⟨_, rfl⟩
  rw [← hw1] at hk1 CK hb1 hB1 h1
  rw [← hnb] at hk1
  have hnlt : nb < w1.heap.size := (Array.getElem?_eq_some_iff.1 hk1).1
  have hxs := wds_wd hx
  have CS : Hid (∀ W, Below w1.heap.size w1 W → Calls Tryz.prog 25 #[ptrV lb, .string (wds.getD q ⟨#[]⟩)] W fun e w' => e = .returned (.tuple #[.int .i64 0, .int .i64 7]) ∧ Mvd w w' B (N + 1) (M + 1) lb sb hb) := by
    intro W hb'
    have hBW : Below B w W := hB1.trans (belowB hb' (Nat.le_trans hB hB1.size))
    have hfew := h.tl.few
    refine (sub_many (h1.below hb').log.x (ht.next hBW).now (wds.getD q ⟨#[]⟩) (by unfold maxLen; omega) (wds_isWd hx) htn (by omega)).mono ?_
    rintro e w' ⟨rfl, hb2⟩
    exact ⟨rfl, L, all, tls, N, by omega, ((h.shx hB (hb1.trans ((hb'.trans (hb2.mono hb'.size)).mono hb1.size))).mono (by omega))⟩
  have RD : Hid (∀ W, Below w1.heap.size w1 W → W.cell? ⟨sb, 0, none⟩ = some (ptrV lb)) := fun W hb' => ((h1.below hb').cell (j := 0) rfl).1
  obtain ⟨c0, _⟩ := cell_of (j := 0) (u := .int .i64 k) hk1 rfl
  obtain ⟨c1, _⟩ := cell_of (j := 1) (u := .int .i64 a) hk1 rfl
  have HW1 := hide hw1
  have HNB := hide hnb
  have hbw := below_allocG w1.drew (Obj.cells #[.string ⟨#[97]⟩, .string ⟨#[98]⟩, .string ⟨#[97, 98]⟩, .string ⟨#[100, 105, 115, 107]⟩, .string ⟨#[49]⟩, .string ⟨#[120, 57]⟩] 9)
  have hwa := word_at w1.drew q hq6
  have CW := hide (Kp.words_any w1.drew)
  have cA := ((hbw.cell (p := ⟨nb, 1, none⟩) hnlt).trans c1 : _)
  obtain ⟨w2, hw2⟩ : ∃ w2, w2 = w1.drew.alloc (Obj.cells #[.string ⟨#[97]⟩, .string ⟨#[98]⟩, .string ⟨#[97, 98]⟩, .string ⟨#[100, 105, 115, 107]⟩, .string ⟨#[49]⟩, .string ⟨#[120, 57]⟩] 9) := ⟨_, rfl⟩
  rw [← hw2] at hwa CW hbw cA
  have HB2 : Hid (Below w1.heap.size w1 w2) := below_drew1 hbw
  have d0 := RD.out w2 HB2.out
  have hwa : w2.cell? ⟨w1.heap.size, q, none⟩ = some (.string (wds.getD q ⟨#[]⟩)) := hwa
  clear h h1 hb1 hk1 hB1 hw1 hnb ht hbw hw2
  rw [hp] at CK
  clear hp
  generalize wds.getD q ⟨#[]⟩ = x at *
  clear hx
  go_enter Tryz.func10, Tryz.ntmps10
  go_upto_region 1 with fail
  rw [← HW1.out, ← HNB.out]
  go_upto_region 13 with (first
    | (go_at_call 7; refine CK.out.mono ?_; rintro e w' ⟨rfl, hw'⟩; rw [hw']; clear hw' w'))
  go_region_law (first
    | (rw [if_pos (by simp [Region.wanted])]; go_simp; go_at_call 7; refine (CKa.out _).mono ?_; rintro e w' ⟨rfl, hw'⟩; rw [hw']; clear hw' w')
    | (rw [if_pos (by simp [Region.wanted])]; go_simp; go_at_call 11; refine CW.out.mono ?_; rintro e w' ⟨rfl, hw'⟩; rw [hw']; clear hw' w'))
  all_goals (
    go_wp2_with (first
      | (go_at_call 25; refine (CS.out _ HB2.out).mono ?_; rintro e w3 ⟨rfl, hx⟩; have HX := hide hx; clear hx))
    go_end0
    exact ⟨rfl, HX.out⟩)
end Go.Proofs.YtkncboinfcnklabGreatDoor.Kq

namespace Go.Proofs.YtkncboinfcnklabGreatDoor.Kq
open Go.RowKit Go.Deep Go.Shelf Go.Proofs.YtkncboinfcnklabGreatDoor.Mth Go.Proofs.YtkncboinfcnklabGreatDoor.Kp

theorem foC_off : ∀ {l : List Fo} {k : Nat}, k < l.length → (l.flatMap foC).set (k * 4 + 3) (.bool false) = (l.set k ⟨(l.getD k fo0).num, (l.getD k fo0).word, (l.getD k fo0).next, false⟩).flatMap foC
  | g :: l, 0, _ => by simp [foC]
  | g :: l, k + 1, h => by
    have ih := foC_off (l := l) (k := k) (by simpa using h)
    have e3 : (k + 1) * 4 + 3 = (k * 4 + 3) + 4 := by omega
    rw [e3, List.flatMap_cons, List.set_cons_succ, List.flatMap_cons, List.getD_cons_succ, ← ih]
    simp [foC]
theorem ShM.toff {w : World} {ρ : Nat → Nat} {B N lb sb g c : Nat} {hb : Xt} {G : Gh} {L : Lg} {C : Array Value} {all : List Ent} {tls : List Fo} {av : Value} (hl : LogAt w ρ B N lb G L) (h : ShM w ρ B sb hb C all tls av (.slice (some ⟨g, 0, none⟩) tls.length c)) (hB : B ≤ w.heap.size) {i : Nat} (hi : i < tls.length) :
    LogAt (w.setCell ⟨g, i * 4 + 3, none⟩ (.bool false)) ρ B N lb G L ∧ ShM (w.setCell ⟨g, i * 4 + 3, none⟩ (.bool false)) ρ B sb hb C all (tls.set i ⟨(tls.getD i fo0).num, (tls.getD i fo0).word, (tls.getD i fo0).next, false⟩) av (.slice (some ⟨g, 0, none⟩) tls.length c) ∧ Below B w (w.setCell ⟨g, i * 4 + 3, none⟩ (.bool false)) := by
  have hT : Tch (fun k => k = g) w (w.setCell ⟨g, i * 4 + 3, none⟩ (.bool false)) := ⟨rfl, rfl, rfl, by simp, fun k _ hne => set_other hne⟩
  obtain ⟨hgB, hgl, D, hD⟩ := own_block h.trow (g := g) rfl
  have hgs : sb ≠ g := fun e => by
    rw [← e] at hD
    exact absurd (cells_ty h.blk hD) (by decide)
  have hrow := own_store (y := .bool false) h.trow (i := i * 4 + 3) (by omega)
  rw [foC_off hi] at hrow
  refine ⟨off hl hT (fun k _ e => by rw [e]; exact ⟨h.rt g rfl, notN' hD (by decide)⟩), ⟨(hT.block sb (Array.getElem?_eq_some_iff.1 h.blk).1 hgs).trans h.blk, own_same h.row (fun k hk => hT.block k (own_block h.row hk).2.1 (fun e => ?_)), by rw [List.length_set]; exact hrow, h.rs, h.ra, h.rt, h.ge, h.x.tch hT (fun k e => by rw [e]; exact ⟨_, _, hD, by decide, by decide⟩)⟩, below_tch (Below.refl B w) hT (fun k e => by rw [e]; exact hgB) hB⟩
  obtain ⟨_, _, D', hD'⟩ := own_block h.row hk
  rw [e] at hD'
  exact absurd (cells_ty hD hD') (by decide)
/-- One who follows goes. -/
theorem TlR.gone {L L' : Lg} {tls : List Fo} {n i : Nat} (h : TlR L tls n) (hi : i < tls.length) (h1 : ∀ z, L'.tls z = if z = (i : Int) then none else L.tls z) (h2 : L'.subs = L.subs) (h3 : L'.tn ≤ 4) : TlR L' (tls.set i ⟨(tls.getD i fo0).num, (tls.getD i fo0).word, (tls.getD i fo0).next, false⟩) n := by
  refine ⟨fun j hj => ?_, fun j hj => ?_, fun x hx => ?_, by rw [List.length_set, h2]; exact h.subs, h3⟩
  · rw [List.length_set] at hj
    rw [getD_setF tls _ j hi]
    by_cases e : j = i
    · rw [if_pos e, e]; exact h.num i hi
    · rw [if_neg e]; exact h.num j hj
  · rw [List.length_set] at hj
    rw [getD_setF tls _ j hi, h1]
    by_cases e : j = i
    · rw [if_pos e, if_pos (by omega)]; rfl
    · rw [if_neg e, if_neg (by omega)]; exact h.at_ j hj
  · rw [List.length_set] at hx
    rw [h1, if_neg (by omega)]
    exact h.out x hx

/-- What Unsubscribe leaves of a shelf. -/
theorem unsub_sh {w : World} {ρ : Nat → Nat} {B N M lb sb g c : Nat} {hb : Xt} {G : Gh} {L : Lg} {all : List Ent} {tls : List Fo} {av : Value} (h : Sh w ρ B N M lb sb hb G L all tls av (.slice (some ⟨g, 0, none⟩) tls.length c)) (hB : B ≤ w.heap.size) {i : Nat} (hi : i < tls.length) (hM : M ≤ 400000) :
    Calls Tryz.prog 26 #[ptrV lb, .int .i64 (i : Int)] w fun e w' => ∃ r : Int, e = .returned (.int .i64 r) ∧ ((r == 0) = (tls.getD i fo0).there) ∧ w'.cell? ⟨sb, 0, none⟩ = some (ptrV lb) ∧ w'.cell? ⟨sb, 12, none⟩ = some (.slice (some ⟨g, 0, none⟩) tls.length c) ∧ w'.cell? ⟨g, i * 4, none⟩ = some (.int .i64 (i : Int)) ∧ w'.cell? ⟨sb, 13, none⟩ = some (.bool true) ∧ w'.frozen? ⟨sb, 13, none⟩ = false ∧ w'.cell? ⟨g, i * 4 + 3, none⟩ = some (.bool (tls.getD i fo0).there) ∧ (w'.setCell ⟨sb, 13, none⟩ (.bool true)).cell? ⟨sb, 12, none⟩ = some (.slice (some ⟨g, 0, none⟩) tls.length c) ∧ (w'.setCell ⟨sb, 13, none⟩ (.bool true)).cell? ⟨g, i * 4 + 3, none⟩ = some (.bool (tls.getD i fo0).there) ∧ (w'.setCell ⟨sb, 13, none⟩ (.bool true)).frozen? ⟨g, i * 4 + 3, none⟩ = false ∧ Mvd w ((w'.setCell ⟨sb, 13, none⟩ (.bool true)).setCell ⟨g, i * 4 + 3, none⟩ (.bool false)) B (N + 1) (M + 1) lb sb hb := by
  have hbud := h.bud
  have hat := h.tl.at_ i hi
  have key : ∀ (w' : World) (L' : Lg), LogAt w' ρ B N lb G L' → ShM w' ρ B sb hb (shC lb hb L' av (.slice (some ⟨g, 0, none⟩) tls.length c)) all tls av (.slice (some ⟨g, 0, none⟩) tls.length c) → Below B w w' → Inv L' all → TlR L' (tls.set i ⟨(tls.getD i fo0).num, (tls.getD i fo0).word, (tls.getD i fo0).next, false⟩) all.length → L'.clock = L.clock → w'.cell? ⟨sb, 0, none⟩ = some (ptrV lb) ∧ w'.cell? ⟨sb, 12, none⟩ = some (.slice (some ⟨g, 0, none⟩) tls.length c) ∧ w'.cell? ⟨g, i * 4, none⟩ = some (.int .i64 (i : Int)) ∧ w'.cell? ⟨sb, 13, none⟩ = some (.bool true) ∧ w'.frozen? ⟨sb, 13, none⟩ = false ∧ w'.cell? ⟨g, i * 4 + 3, none⟩ = some (.bool (tls.getD i fo0).there) ∧ (w'.setCell ⟨sb, 13, none⟩ (.bool true)).cell? ⟨sb, 12, none⟩ = some (.slice (some ⟨g, 0, none⟩) tls.length c) ∧ (w'.setCell ⟨sb, 13, none⟩ (.bool true)).cell? ⟨g, i * 4 + 3, none⟩ = some (.bool (tls.getD i fo0).there) ∧ (w'.setCell ⟨sb, 13, none⟩ (.bool true)).frozen? ⟨g, i * 4 + 3, none⟩ = false ∧ Mvd w ((w'.setCell ⟨sb, 13, none⟩ (.bool true)).setCell ⟨g, i * 4 + 3, none⟩ (.bool false)) B (N + 1) (M + 1) lb sb hb := by
    intro w' L' hl hm hBw hI hTL hcl
    obtain ⟨a1, a2, a3⟩ := ShM.set hl hm 13 (.bool true)
    rw [shC_fine] at a2
    have hB' : B ≤ w'.heap.size := Nat.le_trans hB hBw.size
    have hB13 := a3 hB'
    obtain ⟨b1, b2, b3⟩ := ShM.toff a1 a2 (Nat.le_trans hB' hB13.size) hi
    obtain ⟨f1, f2, f3, f4⟩ := foC_at hi
    rw [(h.tl.num i hi).1] at f1
    have hc : tls.length ≤ c := by
      obtain ⟨_, c', e, hc, _⟩ := own_slice h.mem.trow
      injection e with _ _ e
      omega
    exact ⟨(cell_of (j := 0) hm.blk rfl).1, (cell_of (j := 12) hm.blk rfl).1, own_get hm.trow f1, (cell_of (j := 13) hm.blk rfl).1, (cell_of (j := 13) (u := .bool true) hm.blk rfl).2, own_get hm.trow f4, (cell_of (j := 12) a2.blk rfl).1, own_get a2.trow f4, (own_there a2.trow (j := i * 4 + 3) (by omega)).2, L', all, _, N, by omega, ⟨ρ, G, _, _, b1, b2, hI, (by rw [hcl]; exact h.dk.mono (by omega) rfl rfl rfl rfl), ⟨by omega, by omega, by rw [List.length_set]; omega⟩, hTL⟩, hBw.trans (hB13.trans b3)⟩
  cases hth : (tls.getD i fo0).there with
  | false =>
    rw [hth, if_neg (by decide)] at hat
    refine (unsub_no h.log.x (wf_nat (by omega)) hat).mono ?_
    rintro e w' ⟨rfl, hb'⟩
    have := key w' L (h.log.below hb') (h.mem.below hb') (belowB hb' hB) h.inv (h.tl.gone hi (fun z => by by_cases e : z = (i : Int); rw [if_pos e, e]; exact hat; rw [if_neg e]) rfl h.tl.few) rfl
    rw [hth] at this
    exact ⟨8, rfl, rfl, this⟩
  | true =>
    rw [hth, if_pos rfl] at hat
    refine (unsub_yes h.log (wf_nat (by omega)) hat).mono ?_
    rintro e w' ⟨rfl, hT⟩
    have hI : Inv { L with tls := fun y => if y = (i : Int) then none else L.tls y, tn := L.tn - 1 } all := h.inv.tail (subs' := L.subs) (fun x q hq => by
      by_cases e : x = (i : Int)
      · rw [if_pos e] at hq; cases hq
      · rw [if_neg e] at hq
        exact ⟨h.inv.plc x q hq, Or.inr ⟨q, hq, Nat.le_refl _⟩⟩)
    have hfew := h.tl.few
    have := key w' _ hT.log (h.mem.keep hT.stp) (below_lstp (Below.refl B w) hT.stp h.log.x.lt hB) hI (h.tl.gone hi (fun z => rfl) rfl (by show L.tn - 1 ≤ 4; omega)) rfl
    rw [hth] at this
    exact ⟨0, rfl, rfl, this⟩

set_option maxRecDepth 100000 in
set_option maxHeartbeats 2000000 in
theorem mv_unsub {w : World} {ρ : Nat → Nat} {B N M lb sb : Nat} {hb : Xt} {G : Gh} {L : Lg} {all : List Ent} {tls : List Fo} {av tv : Value} (h : Sh w ρ B N M lb sb hb G L all tls av tv) (hB : B ≤ w.heap.size) (k a b : Int) (s : ByteArray) (hk : I64 k) (ha : I64 a) (hp : pkI k 11 = 8) (h0 : 0 < tls.length) (hM : M ≤ 400000) :
    Calls Tryz.prog 10 #[ptrV sb, mvV k a b s] w fun e w' => e = .returned (.tuple #[]) ∧ Mvd w w' B (N + 1) (M + 1) lb sb hb := by
  obtain ⟨g, c, rfl, hc, hm, _⟩ := h.fol h0
  have hb1 := below_allocG w (mvO k a b s)
  have hk1 := new_blk w #[.int .i64 k, .int .i64 a, .int .i64 b, .string s] 42
  have CK := hide (Kp.pick_any k 11 (w.alloc (mvO k a b s)) hk.1 hk.2 (by omega) (by omega))
  have hbud := h.bud
  have CKa : Hid (∀ W, Calls Tryz.prog 7 #[.int .i64 a, .int .i64 (tls.length : Int)] W fun e w' => e = .returned (.int .i64 (pkI a (tls.length : Int))) ∧ w' = W) := fun W => Kp.pick_any a (tls.length : Int) W ha.1 ha.2 (by omega) (by omega)
  have hbd := pkI_bd a (tls.length : Int) (by omega)
  have hB1 := belowB hb1 hB
  obtain ⟨q, hq⟩ : ∃ q : Nat, pkI a (tls.length : Int) = (q : Int) := ⟨(pkI a (tls.length : Int)).toNat, by omega⟩
  rw [hq] at CKa hbd
  have hqn : q < tls.length := by omega
  have h1 := h.below hb1
  obtain ⟨w1, hw1⟩ : ∃ w1, w1 = w.alloc (mvO k a b s) := ⟨_, rfl⟩
  obtain ⟨nb, hnb⟩ : ∃ nb, nb = w.heap.size := ⟨_, rfl⟩
  rw [← hw1] at hk1 CK hb1 hB1 h1
  rw [← hnb] at hk1
  have CS : Hid (∀ W, Below w1.heap.size w1 W → W.cell? ⟨sb, 0, none⟩ = some (ptrV lb) ∧ W.cell? ⟨sb, 12, none⟩ = some (.slice (some ⟨g, 0, none⟩) tls.length c) ∧ W.cell? ⟨g, q * 4, none⟩ = some (.int .i64 (q : Int)) ∧ Calls Tryz.prog 26 #[ptrV lb, .int .i64 (q : Int)] W fun e w' => ∃ r : Int, e = .returned (.int .i64 r) ∧ ((r == 0) = (tls.getD q fo0).there) ∧ w'.cell? ⟨sb, 0, none⟩ = some (ptrV lb) ∧ w'.cell? ⟨sb, 12, none⟩ = some (.slice (some ⟨g, 0, none⟩) tls.length c) ∧ w'.cell? ⟨g, q * 4, none⟩ = some (.int .i64 (q : Int)) ∧ w'.cell? ⟨sb, 13, none⟩ = some (.bool true) ∧ w'.frozen? ⟨sb, 13, none⟩ = false ∧ w'.cell? ⟨g, q * 4 + 3, none⟩ = some (.bool (tls.getD q fo0).there) ∧ (w'.setCell ⟨sb, 13, none⟩ (.bool true)).cell? ⟨sb, 12, none⟩ = some (.slice (some ⟨g, 0, none⟩) tls.length c) ∧ (w'.setCell ⟨sb, 13, none⟩ (.bool true)).cell? ⟨g, q * 4 + 3, none⟩ = some (.bool (tls.getD q fo0).there) ∧ (w'.setCell ⟨sb, 13, none⟩ (.bool true)).frozen? ⟨g, q * 4 + 3, none⟩ = false ∧ Mvd w ((w'.setCell ⟨sb, 13, none⟩ (.bool true)).setCell ⟨g, q * 4 + 3, none⟩ (.bool false)) B (N + 1) (M + 1) lb sb hb) := by
    intro W hb'
    have hW := h1.below hb'
    have hBW : Below B w W := hB1.trans (belowB hb' (Nat.le_trans hB hB1.size))
    obtain ⟨f1, f2, f3, f4⟩ := foC_at hqn
    rw [(h.tl.num q hqn).1] at f1
    refine ⟨(hW.cell (j := 0) rfl).1, (hW.cell (j := 12) rfl).1, own_get hW.mem.trow f1, (unsub_sh hW (Nat.le_trans hB hBW.size) hqn hM).mono ?_⟩
    rintro e w' ⟨r, rfl, x1, x2, x3, x4, x5, x6, x7, x8, x9, x10, L', all', tls', N', hN', hx⟩
    exact ⟨r, rfl, x1, x2, x3, x4, x5, x6, x7, x8, x9, x10, L', all', tls', N', hN', hx.pre hBW⟩
  obtain ⟨c0, _⟩ := cell_of (j := 0) (u := .int .i64 k) hk1 rfl
  obtain ⟨c1, _⟩ := cell_of (j := 1) (u := .int .i64 a) hk1 rfl
  obtain ⟨d12, _⟩ := h1.cell (j := 12) (u := .slice (some ⟨g, 0, none⟩) tls.length c) rfl
  have h0I : (0 : Int) < (tls.length : Int) := by omega
  have hqI : (q : Int) < (tls.length : Int) := by omega
  have HW1 := hide hw1
  have HNB := hide hnb
  unfold maxLen at hm
  clear h h1 hb1 hk1 hB1 hw1 hnb hq
  rw [hp] at CK
  clear hp
  generalize (tls.getD q fo0).there = th at *
  generalize tls.length = nw at *
  go_enter Tryz.func10, Tryz.ntmps10
  go_upto_region 1 with fail
  rw [← HW1.out, ← HNB.out]
  go_upto_region 24 with (first
    | (go_at_call 7; refine CK.out.mono ?_; rintro e w' ⟨rfl, hw'⟩; rw [hw']; clear hw' w'))
  go_region_held3 (fun w' => w'.cell? ⟨sb, 12, none⟩ = some (.slice (some ⟨g, 0, none⟩) nw c) ∧ w'.cell? ⟨nb, 1, none⟩ = some (.int .i64 a)) (first | exact ⟨d12, c1⟩ | fail)
    (first | (go_at_call 7; refine (CKa.out _).mono ?_; rintro e w' ⟨rfl, hw'⟩; rw [hw']; clear hw' w'))
  obtain ⟨m0, m12, mg, hcs⟩ := CS.out w1.drew.drew ((drewB w1).trans ((drewB w1.drew).mono (Nat.le_refl _)))
  have HCS := hide hcs
  have p0 : w1.drew.cell? ⟨sb, 0, none⟩ = some (ptrV lb) := m0
  have p12 : w1.drew.cell? ⟨sb, 12, none⟩ = some (.slice (some ⟨g, 0, none⟩) nw c) := m12
  have pg : w1.drew.cell? ⟨g, q * 4, none⟩ = some (.int .i64 (q : Int)) := mg
  clear hcs CS
  go_upto_region 25 with fail
  go_region_held3 (fun w' => w'.cell? ⟨sb, 0, none⟩ = some (ptrV lb) ∧ w'.cell? ⟨sb, 12, none⟩ = some (.slice (some ⟨g, 0, none⟩) nw c) ∧ w'.cell? ⟨g, q * 4, none⟩ = some (.int .i64 (q : Int))) (first | exact ⟨m0, m12, mg⟩ | exact ⟨n0, n12, ng⟩ | fail)
    (first | (go_at_call 26; refine HCS.out.mono ?_; rintro e w3 ⟨r, rfl, hr, n0, n12, ng, n13, f13, n3, s12, s3, sf3, hx⟩; have HX := hide hx; clear hx))
  cases th with
  | false =>
    go_wp2_with fail
    all_goals first
      | (exfalso; rename_i q1; simp at hr; done)
      | (go_end0; exact ⟨rfl, HX.out⟩)
  | true =>
    go_wp2_with fail
    all_goals first
      | (exfalso; rename_i q1; simp at hr; done)
      | (go_end0; exact ⟨rfl, HX.out⟩)
end Go.Proofs.YtkncboinfcnklabGreatDoor.Kq
