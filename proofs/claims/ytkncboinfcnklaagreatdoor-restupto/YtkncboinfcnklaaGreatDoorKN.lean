import Derived.Test.YtkncboinfcnklaaGreatDoorKL
namespace Go.Proofs.YtkncboinfcnklaaGreatDoor.Kp
open Go.RowKit Go.Deep Go.Shelf Go.Proofs.YtkncboinfcnklaaGreatDoor.Mth

theorem Tryz.info63 : (Tryz.prog.info? 63).map (fun i => (i.zero, i.size, i.bytes)) = some (some (.agg #[.int .i64 0, .string ⟨#[]⟩, .int .i64 0, .bool false]), 4, 40) := by kernel_rfl
/-- A follower more. -/
theorem ShM.moreT {w W5 : World} {ρ : Nat → Nat} {B N lb sb : Nat} {G : Gh} {L : Lg} {C : Array Value} {all : List Ent} {tls : List Fo} {av tv v5 : Value} {f : Fo} {o : Obj} (hl : LogAt w ρ B N lb G L) (h : ShM w ρ B sb C all tls av tv) (hB : B ≤ w.heap.size)
    (o5 : W5.ownsRow B 63 4 v5 (tls.length + 1) (tls.flatMap foC ++ foC f)) (g6 : (w.alloc o).grownBy W5 tv.ownBlock) (n5 : v5.ownBlock = tv.ownBlock ∨ v5.ownBlock = some (w.alloc o).heap.size) :
    W5.heap[sb]? = some (Obj.cells C 61 (0, 0)) ∧ LogAt (W5.setCell ⟨sb, 12, none⟩ v5) ρ B N lb G L ∧ ShM (W5.setCell ⟨sb, 12, none⟩ v5) ρ B sb (C.setIfInBounds 12 v5) all (tls ++ [f]) av v5 ∧ Below B w (W5.setCell ⟨sb, 12, none⟩ v5) := by
  have hsb := (Array.getElem?_eq_some_iff.1 h.blk).1
  have hsz5 : w.heap.size ≤ W5.heap.size := by have := g6.size; simp at this; omega
  have hfar : ∀ g, g < w.heap.size → some g ≠ tv.ownBlock → W5.heap[g]? = w.heap[g]? := fun g hg hne => by
    rw [g6.block g (by simp; omega) hne, _root_.Go.heap_alloc_old w o (r := g) hg]
  have hsbv : some sb ≠ tv.ownBlock := fun q => by
    obtain ⟨_, _, D, hD⟩ := own_block h.trow q
    exact absurd (cells_ty h.blk hD) (by decide)
  have hblk5 := (hfar sb hsb hsbv).trans h.blk
  have hT : Tch (fun k => some k = tv.ownBlock) w W5 := ⟨g6.os, g6.tape, g6.output, hsz5, fun k hk hne => hfar k hk hne⟩
  have hl5 : LogAt W5 ρ B N lb G L := off hl hT (fun k _ q => ⟨h.rt k q, by
    obtain ⟨_, _, D, hD⟩ := own_block h.trow q
    exact notN' hD (by decide)⟩)
  have hm5 : ShM W5 ρ B sb C all (tls ++ [f]) av v5 := by
    refine ⟨hblk5, own_same h.row (fun g hg => hfar g (own_block h.row hg).2.1 (fun q => ?_)), by rw [List.length_append, List.flatMap_append]; simpa using o5, h.rs, h.ra, fun g hg => ?_, h.ge⟩
    · obtain ⟨_, _, D, hD⟩ := own_block h.row hg
      obtain ⟨_, _, D', hD'⟩ := own_block h.trow q
      exact absurd (cells_ty hD hD') (by decide)
    · rcases n5 with q | q
      · rw [q] at hg; exact h.rt g hg
      · rw [q] at hg
        injection hg with hg
        exact hl.free (by rw [hg]; simp)
  obtain ⟨a1, a2, a3⟩ := ShM.set hl5 hm5 12 v5
  have hB5 : Below B w W5 := below_tch (Below.refl B w) hT (fun k q => (own_block h.trow q).1) hB
  exact ⟨hblk5, a1, a2, hB5.trans (a3 (Nat.le_trans hB hsz5))⟩
/-- One who follows comes. -/
def Lg.sub (L : Lg) (x : ByteArray) : Lg := { L with tls := fun y => if y = (L.subs : Int) then some (x, L.count) else L.tls y, tn := L.tn + 1, subs := L.subs + 1 }
theorem Inv.sub {L : Lg} {all : List Ent} (h : Inv L all) (x : ByteArray) : Inv (Lg.sub L x) all := by
  refine h.tail (fun z q hq => ?_)
  by_cases e : z = (L.subs : Int)
  · rw [if_pos e] at hq
    injection hq with hq
    subst hq
    exact ⟨Nat.le_refl _, Or.inl rfl⟩
  · rw [if_neg e] at hq
    exact ⟨h.plc z q hq, Or.inr ⟨q, hq, Nat.le_refl _⟩⟩
theorem TlR.sub {L : Lg} {tls : List Fo} {n : Nat} {x : ByteArray} (h : TlR L tls n) (hx : x ∈ wds) (hc : L.count = n) (ht : L.tn < 4) : TlR (Lg.sub L x) (tls ++ [⟨tls.length, x, n, true⟩]) n := by
  have hg : ∀ i, (tls ++ [(⟨tls.length, x, n, true⟩ : Fo)]).getD i fo0 = if i < tls.length then tls.getD i fo0 else if i = tls.length then ⟨tls.length, x, n, true⟩ else fo0 := fun i => by
    by_cases h1 : i < tls.length
    · rw [if_pos h1, List.getD, List.getElem?_append_left h1]; rfl
    · rw [if_neg h1]
      by_cases h2 : i = tls.length
      · rw [if_pos h2, h2]; simp [List.getD]
      · rw [if_neg h2, List.getD, List.getElem?_eq_none (by simp; omega)]; rfl
  refine ⟨fun i hi => ?_, fun i hi => ?_, fun z hz => ?_, by simp [Lg.sub, h.subs], by show L.tn + 1 ≤ 4; omega⟩
  · rw [List.length_append, List.length_singleton] at hi
    rw [hg]
    by_cases h1 : i < tls.length
    · rw [if_pos h1]; exact h.num i h1
    · rw [if_neg h1, if_pos (by omega)]
      exact ⟨by simp only; omega, hx, Nat.le_refl _⟩
  · rw [List.length_append, List.length_singleton] at hi
    rw [hg]
    show (if (i : Int) = (L.subs : Int) then some (x, L.count) else L.tls (i : Int)) = _
    by_cases h1 : i < tls.length
    · rw [if_pos h1, if_neg (by rw [h.subs]; omega)]; exact h.at_ i h1
    · have hie : i = tls.length := by omega
      rw [if_neg h1, if_pos hie]
      show (if (i : Int) = (L.subs : Int) then some (x, L.count) else L.tls (i : Int)) = some (x, n)
      rw [if_pos (by rw [h.subs]; omega), hc]
  · rw [List.length_append, List.length_singleton] at hz
    show (if z = (L.subs : Int) then some (x, L.count) else L.tls z) = none
    rw [if_neg (by rw [h.subs]; omega)]
    exact h.out z (by omega)
theorem cells_four_new (w : World) (a b c d : Value) (t : TypeId) : ∀ j u, [a, b, c, d][j]? = some u → (w.alloc (Obj.cells #[a, b, c, d] t)).cell? ((⟨w.heap.size, 0, none⟩ : Addr).add j) = some u := cells_new w #[a, b, c, d] t _ rfl

set_option maxRecDepth 100000 in
set_option maxHeartbeats 2000000 in
theorem mv_sub {w : World} {ρ : Nat → Nat} {B N M lb sb hb : Nat} {G : Gh} {L : Lg} {all : List Ent} {tls : List Fo} {av tv : Value} (h : Sh w ρ B N M lb sb hb G L all tls av tv) (hB : B ≤ w.heap.size) (ht : TabB B w) (k a b : Int) (s : ByteArray) (hk : I64 k) (ha : I64 a) (hp : pkI k 11 = 6) (htn : L.tn < 4) (hM : M ≤ 400000) (hN : N ≤ 1099511627776) :
    Calls Tryz.prog 48 #[ptrV sb, mvV k a b s] w fun e w' => e = .returned (.tuple #[]) ∧ ShX w w' B (N + 1) (M + 1) lb sb hb (Lg.sub L (wds.getD (pkI a 6).toNat ⟨#[]⟩)) all (tls ++ [⟨tls.length, wds.getD (pkI a 6).toNat ⟨#[]⟩, all.length, true⟩]) := by
  obtain ⟨i0, hi0, hz0, hz1, hz2⟩ := info_parts Tryz.info63
  have hb1 := below_allocG w (mvO k a b s)
  have hk1 := new_blk w #[.int .i64 k, .int .i64 a, .int .i64 b, .string s] 118
  have CK := hide (pick_any k 11 (w.alloc (mvO k a b s)) hk.1 hk.2 (by omega) (by omega))
  have hbud := h.bud
  have CKa : Hid (∀ W, Calls Tryz.prog 47 #[.int .i64 a, .int .i64 6] W fun e w' => e = .returned (.int .i64 (pkI a 6)) ∧ w' = W) := fun W => pick_any a 6 W ha.1 ha.2 (by omega) (by omega)
  have hbd := pkI_bd a 6 (by omega)
  have hB1 := belowB hb1 hB
  obtain ⟨q, hq⟩ : ∃ q : Nat, pkI a 6 = (q : Int) := ⟨(pkI a 6).toNat, by omega⟩
  rw [hq] at CKa hbd ⊢
  rw [Int.toNat_natCast]
  have hq6 : q < 6 := by omega
  have hx : wds.getD q ⟨#[]⟩ ∈ wds := by
    rw [← List.getElem_eq_getD (h := by simpa [wds] using hq6)]
    exact List.getElem_mem _
  have h1 := h.below hb1
  obtain ⟨w1, hw1⟩ : ∃ w1, w1 = w.alloc (mvO k a b s) := ⟨_, rfl⟩
  obtain ⟨nb, hnb⟩ : ∃ nb, nb = w.heap.size := ⟨_, rfl⟩
  rw [← hw1] at hk1 CK hb1 hB1 h1
  rw [← hnb] at hk1
  have hnlt : nb < w1.heap.size := (Array.getElem?_eq_some_iff.1 hk1).1
  have hxs := wds_wd hx
  have hsub0 : L.tls (L.subs : Int) = none := h.tl.out _ (Or.inr (by rw [h.tl.subs]; omega))
  have CS : Hid (∀ W, Below w1.heap.size w1 W → Calls Tryz.prog 86 #[ptrV lb, .string (wds.getD q ⟨#[]⟩)] W fun e w' => e = .returned (.tuple #[.int .i64 (tls.length : Int), .int .i64 0]) ∧ LogAt w' ρ B (N + 1) lb G (Lg.sub L (wds.getD q ⟨#[]⟩)) ∧ ShM w' ρ B sb (shC lb hb L av tv) all tls av tv ∧ Below B w w') := by
    intro W hb'
    have hBW : Below B w W := hB1.trans (belowB hb' (Nat.le_trans hB hB1.size))
    have := sub_yes (h1.below hb').log (ht.next hBW).now (wds.getD q ⟨#[]⟩) (by omega) (wds_isWd hx) htn (by unfold maxLen; omega) (by rw [h.tl.subs]; omega) hsub0
    refine Calls.mono this ?_
    rintro e w' ⟨rfl, hT⟩
    exact ⟨by rw [h.tl.subs], hT.log, (h1.below hb').mem.keep hT.stp, hBW.trans (below_lstp (Below.refl B W) hT.stp (h1.below hb').log.x.lt (Nat.le_trans hB hBW.size))⟩
  have HI := hide (Inv.sub h.inv (wds.getD q ⟨#[]⟩))
  have HTL := hide (h.tl.sub hx h.inv.cnt htn)
  have hlf := h.left
  have HSC : Hid (∀ av tv, shC lb hb (Lg.sub L (wds.getD q ⟨#[]⟩)) av tv = shC lb hb L av tv) := fun _ _ => rfl
  have RD : Hid (∀ W, Below w1.heap.size w1 W → W.cell? ⟨sb, 0, none⟩ = some (ptrV lb)) := fun W hb' => ((h1.below hb').cell (j := 0) rfl).1
  obtain ⟨c0, _⟩ := cell_of (j := 0) (u := .int .i64 k) hk1 rfl
  obtain ⟨c1, _⟩ := cell_of (j := 1) (u := .int .i64 a) hk1 rfl
  obtain ⟨va, vc, hva, hvc, hvm⟩ := own_slice h.mem.trow
  obtain ⟨ua, uc, hua, huc, hum⟩ := own_slice h.mem.row
  subst hva hua
  have HW1 := hide hw1
  have HNB := hide hnb
  unfold maxLen at hvm hum
  have hbw := below_allocG w1.drew (Obj.cells #[.string ⟨#[97]⟩, .string ⟨#[98]⟩, .string ⟨#[97, 98]⟩, .string ⟨#[100, 105, 115, 107]⟩, .string ⟨#[49]⟩, .string ⟨#[120, 57]⟩] 9)
  have hwa := word_at w1.drew q hq6
  have CW := hide (words_any w1.drew)
  have cA := ((hbw.cell (p := ⟨nb, 1, none⟩) hnlt).trans c1 : _)
  obtain ⟨w2, hw2⟩ : ∃ w2, w2 = w1.drew.alloc (Obj.cells #[.string ⟨#[97]⟩, .string ⟨#[98]⟩, .string ⟨#[97, 98]⟩, .string ⟨#[100, 105, 115, 107]⟩, .string ⟨#[49]⟩, .string ⟨#[120, 57]⟩] 9) := ⟨_, rfl⟩
  rw [← hw2] at hwa CW hbw cA
  have HB2 : Hid (Below w1.heap.size w1 w2) := below_drew1 hbw
  have d0 := RD.out w2 HB2.out
  have hwa : w2.cell? ⟨w1.heap.size, q, none⟩ = some (.string (wds.getD q ⟨#[]⟩)) := hwa
  clear h h1 hb1 hk1 hB1 hw1 hnb hsub0 ht hbw hw2
  rw [hp] at CK
  clear hp
  generalize hLS : Lg.sub L (wds.getD q ⟨#[]⟩) = LS at *
  generalize wds.getD q ⟨#[]⟩ = x at *
  have HX := hide hx
  clear hx hLS
  go_enter Tryz.func48, Tryz.ntmps48
  go_upto_region 1 with fail
  rw [← HW1.out, ← HNB.out]
  go_upto_region 13 with (first
    | (go_at_call 47; refine CK.out.mono ?_; rintro e w' ⟨rfl, hw'⟩; rw [hw']; clear hw' w'))
  go_region_law (first
    | (rw [if_pos (by simp [Region.wanted])]; go_simp; go_at_call 47; refine (CKa.out _).mono ?_; rintro e w' ⟨rfl, hw'⟩; rw [hw']; clear hw' w')
    | (rw [if_pos (by simp [Region.wanted])]; go_simp; go_at_call 49; refine CW.out.mono ?_; rintro e w' ⟨rfl, hw'⟩; rw [hw']; clear hw' w'))
  all_goals (
    go_upto_region 16 with (first
      | (go_at_call 86; refine (CS.out _ HB2.out).mono ?_; rintro e w3 ⟨rfl, hl3, hm3, hB3⟩; obtain ⟨c12, f12⟩ := cell_of (j := 12) (u := .slice va tls.length vc) hm3.blk rfl; obtain ⟨c8, _⟩ := cell_of (j := 8) (u := .slice ua all.length uc) hm3.blk rfl; have HL3 := hide hl3; have HM3 := hide hm3; have HB3 := hide hB3; have HR3 := hide hm3.trow; clear hl3 hm3 hB3))
    have hBw3 : B ≤ w3.heap.size := Nat.le_trans hB HB3.out.size
    have c12' := cellA (o := Obj.cells #[.int .i64 (tls.length : Int), .string x, .int .i64 (all.length : Int), .bool true] 63) c12
    go_region_law (refine step_own_at _ rfl _ _ 59 rfl B 63 i0 (.agg #[.int .i64 0, .string ⟨#[]⟩, .int .i64 0, .bool false]) 4 40 Tryz.underlying59 hi0 hz0 hz1 hz2 rfl (by decide) _ _ _ rfl (by exact HR3.out.alloc _) ⟨w3.heap.size, 0, none⟩ 1 1 [.int .i64 (tls.length : Int), .string x, .int .i64 (all.length : Int), .bool true] rfl rfl (by exact cells_four_new w3.drew _ _ _ _ _) (by intro u hu; simp at hu; rcases hu with rfl | rfl | rfl | rfl <;> rfl) (by unfold maxLen; omega) (by omega) (by simp; omega) ?_; intro v5 W5 o5 g5 n5; obtain ⟨a5, c5, rfl, hc5, hm5⟩ := own_slice o5; have g6 : (w3.alloc (Obj.cells #[.int .i64 (tls.length : Int), .string x, .int .i64 (all.length : Int), .bool true] 63)).grownBy W5 (Value.slice va tls.length vc).ownBlock := ⟨g5.os, g5.tape, g5.output, g5.size, g5.block⟩; have KM := hide (ShM.moreT (f := ⟨tls.length, x, all.length, true⟩) HL3.out HM3.out hBw3 o5 g6 n5); obtain ⟨fb, ff⟩ := cell_of (j := 12) (u := .slice va tls.length vc) KM.out.1 rfl; clear o5 g5 g6 n5)
    all_goals (
      obtain ⟨_, k2, k3, k4⟩ := KM.out
      rw [shC_tls] at k3
      have FIN : Hid (ShX w (W5.setCell ⟨sb, 12, none⟩ (.slice a5 (tls.length + 1) c5)) B (N + 1) (M + 1) lb sb hb LS all (tls ++ [⟨tls.length, x, all.length, true⟩])) := ⟨⟨ρ, G, _, _, k2, by rw [HSC.out]; exact k3, HI.out, hlf, ⟨by omega, by omega, by simp; omega⟩, HTL.out⟩, HB3.out.trans k4⟩
      clear KM k2 k3 k4 c12 c12' c8 fb ff
      generalize W5.setCell ⟨sb, 12, none⟩ (.slice a5 (tls.length + 1) c5) = W6 at *
      go_wp2_with fail
      go_end0
      exact ⟨rfl, FIN.out⟩))
end Go.Proofs.YtkncboinfcnklaaGreatDoor.Kp
