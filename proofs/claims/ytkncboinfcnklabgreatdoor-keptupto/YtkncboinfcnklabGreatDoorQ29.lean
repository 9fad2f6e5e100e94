import Derived.Test.YtkncboinfcnklabGreatDoorQ28
import Derived.Test.YtkncboinfcnklabGreatDoorQ25
import Derived.Test.YtkncboinfcnklabGreatDoorQ27
namespace Go.Proofs.YtkncboinfcnklabGreatDoor.Kp
open Go.RowKit Go.Deep Go.Shelf Go.Proofs.YtkncboinfcnklabGreatDoor.Mth

theorem Tryz.info60 : (Tryz.prog.info? 60).map (fun i => (i.zero, i.size, i.bytes)) = some (some (.agg #[.int .i64 0, .string ⟨#[]⟩, .int .i64 0, .bool false]), 4, 40) := by kernel_rfl
/-- A follower more. -/
theorem ShM.moreT {w W5 : World} {ρ : Nat → Nat} {B N lb sb : Nat} {G : Gh} {L : Lg} {C : Array Value} {all : List Ent} {tls : List Fo} {av tv v5 : Value} {f : Fo} {o : Obj} (hl : LogAt w ρ B N lb G L) (h : ShM w ρ B sb C all tls av tv) (hB : B ≤ w.heap.size)
    (o5 : W5.ownsRow B 60 4 v5 (tls.length + 1) (tls.flatMap foC ++ foC f)) (g6 : (w.alloc o).grownBy W5 tv.ownBlock) (n5 : v5.ownBlock = tv.ownBlock ∨ v5.ownBlock = some (w.alloc o).heap.size) :
    W5.heap[sb]? = some (Obj.cells C 37 (0, 0)) ∧ LogAt (W5.setCell ⟨sb, 12, none⟩ v5) ρ B N lb G L ∧ ShM (W5.setCell ⟨sb, 12, none⟩ v5) ρ B sb (C.setIfInBounds 12 v5) all (tls ++ [f]) av v5 ∧ Below B w (W5.setCell ⟨sb, 12, none⟩ v5) := by
  have hsb := (Array.getElem?_eq_some_iff.1 h.blk).1
  have hsz5 : w.heap.size ≤ W5.heap.size := by have := g6.size; simp at this; omega
  have hfar : ∀ g, g < w.heap.size → some g ≠ tv.ownBlock → W5.heap[g]? = w.heap[g]? := fun g hg hne => by
    rw [g6.block g (by simp; omega) hne, Mth.hAO w o (r := g) hg]
  have hsbv : some sb ≠ tv.ownBlock := fun q => by
    obtain ⟨_, _, D, hD⟩ := own_block h.trow q
    exact absurd (cells_ty h.blk hD) (by decide)
  have hblk5 := (hfar sb hsb hsbv).trans h.blk
  have hT : Tch (fun k => some k = tv.ownBlock) w W5 := ⟨g6.os, g6.tape, g6.output, hsz5, fun k hk hne => hfar k hk hne⟩
  have hl5 : LogAt W5 ρ B N lb G L := off hl hT (fun k _ q => ⟨h.rt k q, by
    obtain ⟨_, _, D, hD⟩ := own_block h.trow q
    exact notN' hD (by decide)⟩)
  have hm5 : ShM W5 ρ B sb C all (tls ++ [f]) av v5 := by
    refine ⟨hblk5, own_same h.row (fun g hg => hfar g (own_block h.row hg).2.1 (fun q => ?_)), by rw [List.length_append, List.flatMap_append]; simpa using o5, h.rs, h.ra, fun g hg => ?_, h.ge⟩
    · obtain ⟨_, _, D, hD⟩ := own_block h.row hg
      obtain ⟨_, _, D', hD'⟩ := own_block h.trow q
      exact absurd (cells_ty hD hD') (by decide)
    · rcases n5 with q | q
      · rw [q] at hg; exact h.rt g hg
      · rw [q] at hg
        injection hg with hg
        exact hl.free (by rw [hg]; simp)
  obtain ⟨a1, a2, a3⟩ := ShM.set hl5 hm5 12 v5
  have hB5 : Below B w W5 := below_tch (Below.refl B w) hT (fun k q => (own_block h.trow q).1) hB
  exact ⟨hblk5, a1, a2, hB5.trans (a3 (Nat.le_trans hB hsz5))⟩
/-- One who follows comes. -/
def Lg.sub (L : Lg) (x : ByteArray) : Lg := { L with tls := fun y => if y = (L.subs : Int) then some (x, L.count) else L.tls y, tn := L.tn + 1, subs := L.subs + 1 }
theorem Inv.sub {L : Lg} {all : List Ent} (h : Inv L all) (x : ByteArray) : Inv (Lg.sub L x) all := by
  refine h.tail (fun z q hq => ?_)
  by_cases e : z = (L.subs : Int)
  · rw [if_pos e] at hq
    injection hq with hq
    subst hq
    exact ⟨Nat.le_refl _, Or.inl rfl⟩
  · rw [if_neg e] at hq
    exact ⟨h.plc z q hq, Or.inr ⟨q, hq, Nat.le_refl _⟩⟩
theorem TlR.sub {L : Lg} {tls : List Fo} {n : Nat} {x : ByteArray} (h : TlR L tls n) (hx : x ∈ wds) (hc : L.count = n) (ht : L.tn < 4) : TlR (Lg.sub L x) (tls ++ [⟨tls.length, x, n, true⟩]) n := by
  have hg : ∀ i, (tls ++ [(⟨tls.length, x, n, true⟩ : Fo)]).getD i fo0 = if i < tls.length then tls.getD i fo0 else if i = tls.length then ⟨tls.length, x, n, true⟩ else fo0 := fun i => by
    by_cases h1 : i < tls.length
    · rw [if_pos h1, List.getD, List.getElem?_append_left h1]; rfl
    · rw [if_neg h1]
      by_cases h2 : i = tls.length
      · rw [if_pos h2, h2]; simp [List.getD]
      · rw [if_neg h2, List.getD, List.getElem?_eq_none (by simp; omega)]; rfl
  refine ⟨fun i hi => ?_, fun i hi => ?_, fun z hz => ?_, by simp [Lg.sub, h.subs], by show L.tn + 1 ≤ 4; omega⟩
  · rw [List.length_append, List.length_singleton] at hi
    rw [hg]
    by_cases h1 : i < tls.length
    · rw [if_pos h1]; exact h.num i h1
    · rw [if_neg h1, if_pos (by omega)]
      exact ⟨by simp only; omega, hx, Nat.le_refl _⟩
  · rw [List.length_append, List.length_singleton] at hi
    rw [hg]
    show (if (i : Int) = (L.subs : Int) then some (x, L.count) else L.tls (i : Int)) = _
    by_cases h1 : i < tls.length
    · rw [if_pos h1, if_neg (by rw [h.subs]; omega)]; exact h.at_ i h1
    · have hie : i = tls.length := by omega
      rw [if_neg h1, if_pos hie]
      show (if (i : Int) = (L.subs : Int) then some (x, L.count) else L.tls (i : Int)) = some (x, n)
      rw [if_pos (by rw [h.subs]; omega), hc]
  · rw [List.length_append, List.length_singleton] at hz
    show (if z = (L.subs : Int) then some (x, L.count) else L.tls z) = none
    rw [if_neg (by rw [h.subs]; omega)]
    exact h.out z (by omega)
theorem cells_four_new (w : World) (a b c d : Value) (t : TypeId) : ∀ j u, [a, b, c, d][j]? = some u → (w.alloc (Obj.cells #[a, b, c, d] t)).cell? ((⟨w.heap.size, 0, none⟩ : Addr).add j) = some u := cells_new w #[a, b, c, d] t _ rfl

set_option maxRecDepth 100000 in
set_option maxHeartbeats 2000000 in
theorem mv_sub {w : World} {ρ : Nat → Nat} {B N M lb sb hb : Nat} {G : Gh} {L : Lg} {all : List Ent} {tls : List Fo} {av tv : Value} (h : Sh w ρ B N M lb sb hb G L all tls av tv) (hB : B ≤ w.heap.size) (ht : TabB B w) (k a b : Int) (s : ByteArray) (hk : I64 k) (ha : I64 a) (hp : pkI k 11 = 6) (htn : L.tn < 4) (hM : M ≤ 400000) (hN : N ≤ 1099511627776) :
    Calls Tryz.prog 10 #[ptrV sb, mvV k a b s] w fun e w' => e = .returned (.tuple #[]) ∧ ShX w w' B (N + 1) (M + 1) lb sb hb (Lg.sub L (wds.getD (pkI a 6).toNat ⟨#[]⟩)) all (tls ++ [⟨tls.length, wds.getD (pkI a 6).toNat ⟨#[]⟩, all.length, true⟩]) := by
  obtain ⟨i0, hi0, hz0, hz1, hz2⟩ := info_parts Tryz.info60
  have hb1 := below_allocG w (mvO k a b s)
  have hk1 := new_blk w #[.int .i64 k, .int .i64 a, .int .i64 b, .string s] 42
  have CK := hide (pick_any k 11 (w.alloc (mvO k a b s)) hk.1 hk.2 (by omega) (by omega))
  have hbud := h.bud
  have CKa : Hid (∀ W, Calls Tryz.prog 7 #[.int .i64 a, .int .i64 6] W fun e w' => e = .returned (.int .i64 (pkI a 6)) ∧ w' = W) := fun W => pick_any a 6 W ha.1 ha.2 (by omega) (by omega)
  have hbd := pkI_bd a 6 (by omega)
  have hB1 := belowB hb1 hB
  obtain ⟨q, hq⟩ : ∃ q : Nat, pkI a 6 = (q : Int) := ⟨(pkI a 6).toNat, by omega⟩
  rw [hq] at CKa hbd ⊢
  rw [Int.toNat_natCast]
  have hq6 : q < 6 := by omega
  have hx : wds.getD q ⟨#[]⟩ ∈ wds := by
    rw [← List.getElem_eq_getD (h := by simpa [wds] using hq6)]
    exact List.getElem_mem _
  have h1 := h.below hb1
  obtain ⟨w1, hw1⟩ : ∃ w1, w1 = w.alloc (mvO k a b s) := ⟨_, rfl⟩
  obtain ⟨nb, hnb⟩ : ∃ nb, nb = w.heap.size := ⟨_, rfl⟩
  rw [← hw1] at hk1 CK hb1 hB1 h1
  rw [← hnb] at hk1
  have hnlt : nb < w1.heap.size := (Array.getElem?_eq_some_iff.1 hk1).1
  have hxs := wds_wd hx
  have hsub0 : L.tls (L.subs : Int) = none := h.tl.out _ (Or.inr (by rw [h.tl.subs]; omega))
  have CS : Hid (∀ W, Below w1.heap.size w1 W → Calls Tryz.prog 25 #[ptrV lb, .string (wds.getD q ⟨#[]⟩)] W fun e w' => e = .returned (.tuple #[.int .i64 (tls.length : Int), .int .i64 0]) ∧ LogAt w' ρ B (N + 1) lb G (Lg.sub L (wds.getD q ⟨#[]⟩)) ∧ ShM w' ρ B sb (shC lb hb L av tv) all tls av tv ∧ Below B w w') := by
    intro W hb'
    have hBW : Below B w W := hB1.trans (belowB hb' (Nat.le_trans hB hB1.size))
    have := sub_yes (h1.below hb').log (ht.next hBW).now (wds.getD q ⟨#[]⟩) (by omega) (wds_isWd hx) htn (by unfold maxLen; omega) (by rw [h.tl.subs]; omega) hsub0
    refine Calls.mono this ?_
    rintro e w' ⟨rfl, hT⟩
    exact ⟨by rw [h.tl.subs], hT.log, (h1.below hb').mem.keep hT.stp, hBW.trans (below_lstp (Below.refl B W) hT.stp (h1.below hb').log.x.lt (Nat.le_trans hB hBW.size))⟩
  have HI := hide (Inv.sub h.inv (wds.getD q ⟨#[]⟩))
  have HTL := hide (h.tl.sub hx h.inv.cnt htn)
  have hlf := h.left
  have HSC : Hid (∀ av tv, shC lb hb (Lg.sub L (wds.getD q ⟨#[]⟩)) av tv = shC lb hb L av tv) := fun _ _ => rfl
  have RD : Hid (∀ W, Below w1.heap.size w1 W → W.cell? ⟨sb, 0, none⟩ = some (ptrV lb)) := fun W hb' => ((h1.below hb').cell (j := 0) rfl).1
  obtain ⟨c0, _⟩ := cell_of (j := 0) (u := .int .i64 k) hk1 rfl
  obtain ⟨c1, _⟩ := cell_of (j := 1) (u := .int .i64 a) hk1 rfl
  obtain ⟨va, vc, hva, hvc, hvm⟩ := own_slice h.mem.trow
  obtain ⟨ua, uc, hua, huc, hum⟩ := own_slice h.mem.row
  subst hva hua
  have HW1 := hide hw1
  have HNB := hide hnb
  unfold maxLen at hvm hum
  have hbw := below_allocG w1.drew (Obj.cells #[.string ⟨#[97]⟩, .string ⟨#[98]⟩, .string ⟨#[97, 98]⟩, .string ⟨#[100, 105, 115, 107]⟩, .string ⟨#[49]⟩, .string ⟨#[120, 57]⟩] 9)
  have hwa := word_at w1.drew q hq6
  have CW := hide (words_any w1.drew)
  have cA := ((hbw.cell (p := ⟨nb, 1, none⟩) hnlt).trans c1 : _)
  obtain ⟨w2, hw2⟩ : ∃ w2, w2 = w1.drew.alloc (Obj.cells #[.string ⟨#[97]⟩, .string ⟨#[98]⟩, .string ⟨#[97, 98]⟩, .string ⟨#[100, 105, 115, 107]⟩, .string ⟨#[49]⟩, .string ⟨#[120, 57]⟩] 9) := ⟨_, rfl⟩
  rw [← hw2] at hwa CW hbw cA
  have HB2 : Hid (Below w1.heap.size w1 w2) := below_drew1 hbw
  have d0 := RD.out w2 HB2.out
  have hwa : w2.cell? ⟨w1.heap.size, q, none⟩ = some (.string (wds.getD q ⟨#[]⟩)) := hwa
  clear h h1 hb1 hk1 hB1 hw1 hnb hsub0 ht hbw hw2
  rw [hp] at CK
  clear hp
  generalize hLS : Lg.sub L (wds.getD q ⟨#[]⟩) = LS at *
  generalize wds.getD q ⟨#[]⟩ = x at *
  have HX := hide hx
  clear hx hLS
  go_enter Tryz.func10, Tryz.ntmps10
  go_upto_region 1 with fail
  rw [← HW1.out, ← HNB.out]
  go_upto_region 13 with (first
    | (go_at_call 7; refine CK.out.mono ?_; rintro e w' ⟨rfl, hw'⟩; rw [hw']; clear hw' w'))
  go_region_law (first
    | (rw [if_pos (by simp [Region.wanted])]; go_simp; go_at_call 7; refine (CKa.out _).mono ?_; rintro e w' ⟨rfl, hw'⟩; rw [hw']; clear hw' w')
    | (rw [if_pos (by simp [Region.wanted])]; go_simp; go_at_call 11; refine CW.out.mono ?_; rintro e w' ⟨rfl, hw'⟩; rw [hw']; clear hw' w'))
  all_goals (
    go_upto_region 16 with (first
      | (go_at_call 25; refine (CS.out _ HB2.out).mono ?_; rintro e w3 ⟨rfl, hl3, hm3, hB3⟩; obtain ⟨c12, f12⟩ := cell_of (j := 12) (u := .slice va tls.length vc) hm3.blk rfl; obtain ⟨c8, _⟩ := cell_of (j := 8) (u := .slice ua all.length uc) hm3.blk rfl; have HL3 := hide hl3; have HM3 := hide hm3; have HB3 := hide hB3; have HR3 := hide hm3.trow; clear hl3 hm3 hB3))
    have hBw3 : B ≤ w3.heap.size := Nat.le_trans hB HB3.out.size
    have c12' := cellA (o := Obj.cells #[.int .i64 (tls.length : Int), .string x, .int .i64 (all.length : Int), .bool true] 60) c12
    go_region_law (refine step_own_at _ rfl _ _ 35 rfl B 60 i0 (.agg #[.int .i64 0, .string ⟨#[]⟩, .int .i64 0, .bool false]) 4 40 Tryz.underlying35 hi0 hz0 hz1 hz2 rfl (by decide) _ _ _ rfl (by exact HR3.out.alloc _) ⟨w3.heap.size, 0, none⟩ 1 1 [.int .i64 (tls.length : Int), .string x, .int .i64 (all.length : Int), .bool true] rfl rfl (by exact cells_four_new w3.drew _ _ _ _ _) (by intro u hu; simp at hu; rcases hu with rfl | rfl | rfl | rfl <;> rfl) (by unfold maxLen; omega) (by omega) (by simp; omega) ?_; intro v5 W5 o5 g5 n5; obtain ⟨a5, c5, rfl, hc5, hm5⟩ := own_slice o5; have g6 : (w3.alloc (Obj.cells #[.int .i64 (tls.length : Int), .string x, .int .i64 (all.length : Int), .bool true] 60)).grownBy W5 (Value.slice va tls.length vc).ownBlock := ⟨g5.os, g5.tape, g5.output, g5.size, g5.block⟩; have KM := hide (ShM.moreT (f := ⟨tls.length, x, all.length, true⟩) HL3.out HM3.out hBw3 o5 g6 n5); obtain ⟨fb, ff⟩ := cell_of (j := 12) (u := .slice va tls.length vc) KM.out.1 rfl; clear o5 g5 g6 n5)
    all_goals (
      obtain ⟨_, k2, k3, k4⟩ := KM.out
      rw [shC_tls] at k3
      have FIN : Hid (ShX w (W5.setCell ⟨sb, 12, none⟩ (.slice a5 (tls.length + 1) c5)) B (N + 1) (M + 1) lb sb hb LS all (tls ++ [⟨tls.length, x, all.length, true⟩])) := ⟨⟨ρ, G, _, _, k2, by rw [HSC.out]; exact k3, HI.out, hlf, ⟨by omega, by omega, by simp; omega⟩, HTL.out⟩, HB3.out.trans k4⟩
      clear KM k2 k3 k4 c12 c12' c8 fb ff
      generalize W5.setCell ⟨sb, 12, none⟩ (.slice a5 (tls.length + 1) c5) = W6 at *
      go_wp2_with fail
      go_end0
      exact ⟨rfl, FIN.out⟩))
end Go.Proofs.YtkncboinfcnklabGreatDoor.Kp

namespace Go.Proofs.YtkncboinfcnklabGreatDoor.Kp
open Go.RowKit Go.Deep Go.Shelf Go.Proofs.YtkncboinfcnklabGreatDoor.Mth

theorem Inv.new {m f bk n kp bt : Nat} (hc : cfgB m f bk n kp bt = true) : Inv (Lg.new m f bk n kp bt) [] := by
  unfold cfgB at hc
  simp only [Bool.and_eq_true, decide_eq_true_eq] at hc
  have hw : ∀ q, ((Lg.new m f bk n kp bt).wks.getD q wk0) = wk0 := fun q => by
    simp only [Lg.new, List.getD_eq_getElem?_getD, List.getElem?_replicate]
    split <;> rfl
  have hct : ∀ i, ct (Lg.new m f bk n kp bt).wks i = 0 := fun i => by
    simp [Lg.new, ct, wk0, tc]
  refine ⟨⟨⟨by simp [Lg.new]; omega, by simp [Lg.new]; omega⟩, ⟨by simp [Lg.new]; omega, by simp [Lg.new]; omega⟩, by simp [Lg.new]; omega, ⟨by simp [Lg.new]; omega, by simp [Lg.new]; omega⟩, ⟨by simp [Lg.new]; omega, by simp [Lg.new]; omega⟩, by simp [Lg.new]; omega⟩, by simp [Lg.new], ⟨fun j hj => absurd hj (by simp), List.Pairwise.nil, fun e he => by cases he⟩, rfl, ?_, (fun e he => by cases he), ?_, by simp [Lg.new], fun i => by rw [hct]; omega, fun i hi => by rw [hct] at hi; omega, fun i _ hi => ?_, fun q _ => ?_, (fun x p hp => by cases hp)⟩
  · rw [sto_eq]
    simp [Lg.new]
  · intro es hes
    rw [segs_eq] at hes
    simp [Lg.new] at hes
  · simp [Lg.new] at hi
    omega
  · rw [hw q]
    exact ⟨(fun i hi => by cases hi), fun _ => rfl⟩
theorem TlR.new (m f bk n kp bt : Nat) : TlR (Lg.new m f bk n kp bt) [] 0 := ⟨fun i hi => absurd hi (by simp), fun i hi => absurd hi (by simp), fun x _ => rfl, rfl, by simp [Lg.new]⟩

abbrev caO (c0 c1 c2 c3 c4 c5 : Int) : Obj := Obj.cells #[.int .i64 c0, .int .i64 c1, .int .i64 c2, .int .i64 c3, .int .i64 c4, .int .i64 c5] 23
abbrev caV (c0 c1 c2 c3 c4 c5 : Int) : Value := .agg #[.int .i64 c0, .int .i64 c1, .int .i64 c2, .int .i64 c3, .int .i64 c4, .int .i64 c5]
set_option maxRecDepth 100000 in
set_option maxHeartbeats 4000000 in
theorem opened_any (w : World) (B : Nat) (hB : B ≤ w.heap.size) (ht : TabB B w) (c0 c1 c2 c3 c4 c5 : Int) (m f bk n kp bt : Nat) (h0 : I64 c0) (h1 : I64 c1) (h2 : I64 c2) (h3 : I64 c3) (h4 : I64 c4) (h5 : I64 c5)
    (e0 : 1 + pkI c0 8 = (m : Int)) (e1 : 2 + pkI c1 3 = (f : Int)) (e2 : pkI c2 5 = (bk : Int)) (e3 : 1 + pkI c3 4 = (n : Int)) (e4 : 1 + pkI c4 1000000 = (kp : Int)) (e5 : 1 + pkI c5 8 = (bt : Int)) :
    Calls Tryz.prog 9 #[caV c0 c1 c2 c3 c4 c5] w fun e w' => ∃ sb lb hb, e = .returned (ptrV sb) ∧ ShX w w' B 0 0 lb sb hb (Lg.new m f bk n kp bt) [] [] := by
  have hcf : cfgB m f bk n kp bt = true := by
    have b0 := pkI_bd c0 8 (by omega)
    have b1 := pkI_bd c1 3 (by omega)
    have b2 := pkI_bd c2 5 (by omega)
    have b3 := pkI_bd c3 4 (by omega)
    have b4 := pkI_bd c4 1000000 (by omega)
    have b5 := pkI_bd c5 8 (by omega)
    unfold cfgB
    simp only [Bool.and_eq_true, decide_eq_true_eq]
    omega
  have hb1 := below_allocG w (caO c0 c1 c2 c3 c4 c5)
  have hk1 := new_blk w #[.int .i64 c0, .int .i64 c1, .int .i64 c2, .int .i64 c3, .int .i64 c4, .int .i64 c5] 23
  obtain ⟨w1, hw1⟩ : ∃ w1, w1 = w.alloc (caO c0 c1 c2 c3 c4 c5) := ⟨_, rfl⟩
  rw [← hw1] at hb1 hk1
  obtain ⟨nb, hnb⟩ : ∃ nb, nb = w.heap.size := ⟨_, rfl⟩
  rw [← hnb] at hk1
  have hnlt : nb < w1.heap.size := (Array.getElem?_eq_some_iff.1 hk1).1
  have CD := hide (apiNew_any w1 B (Nat.le_trans hB hb1.size))
  have CC : Hid (∀ W, Calls Tryz.prog 23 #[caV c0 c1 c2 c3 c4 c5] W fun e w' => e = .returned (.agg #[.int .i64 (m : Int), .int .i64 (f : Int), .int .i64 (bk : Int), .int .i64 (n : Int), .int .i64 (kp : Int), .int .i64 (bt : Int)]) ∧ Below W.heap.size W w') := fun W => by
    have := config_any c0 c1 c2 c3 c4 c5 W h0 h1 h2 h3 h4 h5
    rwa [e0, e1, e2, e3, e4, e5] at this
  have HW1 := hide hw1
  have HB1 := hide hb1
  have HK1 := hide hk1
  have HT := hide ht
  have HNB := hide hnb
  have HCF := hide hcf
  clear hb1 hk1 hw1 ht hcf e0 e1 e2 e3 e4 e5 h0 h1 h2 h3 h4 h5
  go_enter Tryz.func9, Tryz.ntmps9
  go_upto_region 1 with fail
  rw [← HW1.out, ← HNB.out]
  clear hnb
  go_upto_region 2 with (first
    | (go_at_call 22; refine CD.out.mono ?_; rintro e w2 ⟨d, hb, b, rfl, hbn, hdn, hhn, hb2, hst, hpd, hph⟩; have HB2 := hide hb2; have HST := hide hst; have HPD := hide hpd; clear hb2 hst hpd hph))
  have hk2 := (HB2.out.block nb hnlt).trans HK1.out
  obtain ⟨a0, _⟩ := cell_of (j := 0) (u := .int .i64 c0) hk2 rfl
  obtain ⟨a1, _⟩ := cell_of (j := 1) (u := .int .i64 c1) hk2 rfl
  obtain ⟨a2, _⟩ := cell_of (j := 2) (u := .int .i64 c2) hk2 rfl
  obtain ⟨a3, _⟩ := cell_of (j := 3) (u := .int .i64 c3) hk2 rfl
  obtain ⟨a4, _⟩ := cell_of (j := 4) (u := .int .i64 c4) hk2 rfl
  obtain ⟨a5, _⟩ := cell_of (j := 5) (u := .int .i64 c5) hk2 rfl
  clear hk2
  go_upto_region 3 with (first
    | (go_at_call 23; refine (CC.out _).mono ?_; rintro e w3 ⟨rfl, hb3⟩; have HB3 := hide hb3; clear hb3))
  have hb4 := below_allocG w3 (Obj.cells #[.int .i64 (m : Int), .int .i64 (f : Int), .int .i64 (bk : Int), .int .i64 (n : Int), .int .i64 (kp : Int), .int .i64 (bt : Int)] 32)
  have hk4 := new_blk w3 #[.int .i64 (m : Int), .int .i64 (f : Int), .int .i64 (bk : Int), .int .i64 (n : Int), .int .i64 (kp : Int), .int .i64 (bt : Int)] 32
  obtain ⟨w4, hw4⟩ : ∃ w4, w4 = w3.alloc (Obj.cells #[.int .i64 (m : Int), .int .i64 (f : Int), .int .i64 (bk : Int), .int .i64 (n : Int), .int .i64 (kp : Int), .int .i64 (bt : Int)] 32) := ⟨_, rfl⟩
  rw [← hw4] at hb4 hk4 ⊢
  obtain ⟨kb, hkb⟩ : ∃ kb, kb = w3.heap.size := ⟨_, rfl⟩
  rw [← hkb] at hk4 ⊢
  have h24 : Below w2.heap.size w2 w4 := HB3.out.trans (hb4.mono HB3.out.size)
  have h04 : Below w.heap.size w w4 := HB1.out.trans ((HB2.out.trans (h24.mono HB2.out.size)).mono HB1.out.size)
  have hbkb : b < kb := by rw [hkb]; exact Nat.lt_of_lt_of_le HST.out.lt HB3.out.size
  have hklt : kb < w4.heap.size := (Array.getElem?_eq_some_iff.1 hk4).1
  have hB4 : B ≤ w4.heap.size := Nat.le_trans hB h04.size
  have hB04 : Below B w w4 := belowB h04 hB
  have CN := hide (new_log m f bk n kp bt HCF.out (HST.out.below h24) (HPD.out.below h24) hB4 (Nat.le_trans (Nat.le_trans hB HB1.out.size) hdn) (HT.out.next hB04))
  have HKB : Hid (∀ w5, Tch (fun k => k = b) w4 w5 → w5.heap[kb]? = some (Obj.cells #[.int .i64 (m : Int), .int .i64 (f : Int), .int .i64 (bk : Int), .int .i64 (n : Int), .int .i64 (kp : Int), .int .i64 (bt : Int)] 32)) := fun w5 h => (h.block kb hklt (by omega)).trans hk4
  have FIN : Hid (∀ w5 lb, NewL w4 w5 B b lb (Lg.new m f bk n kp bt) → ShX w (w5.alloc (Obj.cells #[ptrV lb, ptrV hb, .int .i64 (m : Int), .int .i64 (f : Int), .int .i64 (bk : Int), .int .i64 (n : Int), .int .i64 (kp : Int), .int .i64 (bt : Int), .slice none 0 0, .int .i64 0, .slice none 0 0, .int .i64 0, .slice none 0 0, .bool true] 37)) B 0 0 lb w5.heap.size hb (Lg.new m f bk n kp bt) [] []) := by
    intro w5 lb hn5
    obtain ⟨⟨ρ, G, hl, hlf, hdt⟩, ht5⟩ := hn5
    have hB5 : B ≤ w5.heap.size := Nat.le_trans hB4 ht5.size
    have hb6 := below_allocG w5 (Obj.cells #[ptrV lb, ptrV hb, .int .i64 (m : Int), .int .i64 (f : Int), .int .i64 (bk : Int), .int .i64 (n : Int), .int .i64 (kp : Int), .int .i64 (bt : Int), .slice none 0 0, .int .i64 0, .slice none 0 0, .int .i64 0, .slice none 0 0, .bool true] 37)
    have hk6 := new_blk w5 #[ptrV lb, ptrV hb, .int .i64 (m : Int), .int .i64 (f : Int), .int .i64 (bk : Int), .int .i64 (n : Int), .int .i64 (kp : Int), .int .i64 (bt : Int), .slice none 0 0, .int .i64 0, .slice none 0 0, .int .i64 0, .slice none 0 0, .bool true] 37
    have hB45 : Below B w4 w5 := below_tch (Below.refl B w4) ht5 (fun k e => by rw [e]; exact Nat.le_trans (Nat.le_trans hB HB1.out.size) hbn) hB4
    refine ⟨⟨ρ, G, .slice none 0 0, .slice none 0 0, hl.below hb6, ⟨?_, World.ownsRow_nil _ _ _ _, World.ownsRow_nil _ _ _ _, hl.free (Nat.le_refl _), (fun g hg => by cases hg), (fun g hg => by cases hg), hB5⟩, Inv.new HCF.out, hlf, ⟨by rw [hdt]; simp [ByteArray.size], by simp, by simp⟩, TlR.new _ _ _ _ _ _⟩, hB04.trans (hB45.trans (belowB hb6 hB5))⟩
    rw [hk6]
    simp [shC, Lg.new]
  obtain ⟨q0, _⟩ := cell_of (j := 0) (u := .int .i64 (m : Int)) hk4 rfl
  obtain ⟨q1, _⟩ := cell_of (j := 1) (u := .int .i64 (f : Int)) hk4 rfl
  obtain ⟨q2, _⟩ := cell_of (j := 2) (u := .int .i64 (bk : Int)) hk4 rfl
  obtain ⟨q3, _⟩ := cell_of (j := 3) (u := .int .i64 (n : Int)) hk4 rfl
  obtain ⟨q4, _⟩ := cell_of (j := 4) (u := .int .i64 (kp : Int)) hk4 rfl
  obtain ⟨q5, _⟩ := cell_of (j := 5) (u := .int .i64 (bt : Int)) hk4 rfl
  clear a0 a1 a2 a3 a4 a5 hb4 hk4 hw4 hkb h24 h04
  go_upto_region 4 with (first
    | (go_at_call 16; refine CN.out.mono ?_; rintro e w5 ⟨lb, rfl, hn5⟩; have HF := hide (FIN.out w5 lb hn5); have hk5 := HKB.out w5 hn5.tch; clear hn5))
  clear q0 q1 q2 q3 q4 q5
  obtain ⟨q0, _⟩ := cell_of (j := 0) (u := .int .i64 (m : Int)) hk5 rfl
  obtain ⟨q1, _⟩ := cell_of (j := 1) (u := .int .i64 (f : Int)) hk5 rfl
  obtain ⟨q2, _⟩ := cell_of (j := 2) (u := .int .i64 (bk : Int)) hk5 rfl
  obtain ⟨q3, _⟩ := cell_of (j := 3) (u := .int .i64 (n : Int)) hk5 rfl
  obtain ⟨q4, _⟩ := cell_of (j := 4) (u := .int .i64 (kp : Int)) hk5 rfl
  obtain ⟨q5, _⟩ := cell_of (j := 5) (u := .int .i64 (bt : Int)) hk5 rfl
  clear hk5
  go_wp2_with fail
  go_ret
  exact ⟨_, _, _, rfl, HF.out⟩
end Go.Proofs.YtkncboinfcnklabGreatDoor.Kp

namespace Go.Proofs.YtkncboinfcnklabGreatDoor.Kq
open Go.RowKit Go.Deep Go.Shelf Go.Proofs.YtkncboinfcnklabGreatDoor.Mth Go.Proofs.YtkncboinfcnklabGreatDoor.Kp

/-! ### what a crash leaves of a journal -/
theorem tb_cut (s : ByteArray) (n : Nat) : tb (cut s n) = (tb s).take n := by
  unfold tb cut
  rw [ByteArray.data_extract, Array.toList_extract, List.extract_eq_take_drop, List.drop_zero, Nat.sub_zero, List.map_take]
theorem cut_all {s : ByteArray} : cut s s.size = s := tb_inj (by rw [tb_cut, ← tb_len s, List.take_length])
/-- A disk's files, where the journal's bytes are all safe. -/
structure DF (fs : List Fl) (dt : ByteArray) : Prop where
  jd : JD fs
  len : fs.length ≤ 2
  dat : jDat fs dt
  sf : ∀ f ∈ fs, f.safe ≤ f.data.size ∧ f.data.size ≤ 1099511627776
  js : ∀ f ∈ fs, f.name = jnm → f.safe = f.data.size
theorem crN_all {keep : Int} {f : Fl} (h : f.safe = f.data.size) : crN keep f = f.data.size := by
  unfold crN
  split
  · exact h
  · rw [if_neg (by omega)]
theorem DF.crash {fs : List Fl} {dt : ByteArray} (h : DF fs dt) (keep : Int) : DF (fs.map (cr keep)) dt := by
  refine ⟨fun f hf => ?_, by rw [List.length_map]; exact h.len, fun r hr => ?_, fun f hf => ?_, fun f hf hn => ?_⟩
  · obtain ⟨g, hg, rfl⟩ := List.mem_map.1 hf
    exact h.jd g hg
  · have hnm : ∀ j, j < fs.length → ((fs.map (cr keep)).getD j fl0).name = (fs.getD j fl0).name := fun j hj => by
      rw [List.getD_eq_getElem?_getD, List.getElem?_map, List.getElem?_eq_getElem hj, List.getD_eq_getElem?_getD, List.getElem?_eq_getElem hj]
      rfl
    have hat : At fs jnm r := by
      rcases hr with ⟨e, q⟩ | ⟨i, hi, e, q1, q2⟩
      · exact Or.inl ⟨e, fun j hj => by rw [← hnm j hj]; exact q j (by rw [List.length_map]; exact hj)⟩
      · rw [List.length_map] at hi
        exact Or.inr ⟨i, hi, e, by rw [← hnm i hi]; exact q1, fun j hj => by rw [← hnm j (by omega)]; exact q2 j hj⟩
    have hd := h.dat r hat
    rcases hat with ⟨e, q⟩ | ⟨i, hi, e, q1, q2⟩
    · rw [if_pos (by omega)] at hd ⊢
      exact hd
    · rw [if_neg (by omega)] at hd ⊢
      have hm : fs.getD i fl0 ∈ fs := by rw [← List.getElem_eq_getD (h := hi)]; exact List.getElem_mem _
      have he : (fs.map (cr keep)).getD r.toNat fl0 = cr keep (fs.getD r.toNat fl0) := by
        rw [e, Int.toNat_natCast, List.getD_eq_getElem?_getD, List.getElem?_map, List.getElem?_eq_getElem hi, List.getD_eq_getElem?_getD, List.getElem?_eq_getElem hi]
        rfl
      rw [he]
      rw [e, Int.toNat_natCast] at hd ⊢
      show cut _ (crN keep _) = _
      rw [crN_all (h.js _ hm q1), cut_all]
      exact hd
  · obtain ⟨g, hg, rfl⟩ := List.mem_map.1 hf
    have h1 := h.sf g hg
    have h2 := crN_le (keep := keep) h1.1
    show crN keep g ≤ (cut g.data (crN keep g)).size ∧ (cut g.data (crN keep g)).size ≤ _
    rw [cut_size h2]
    omega
  · obtain ⟨g, hg, rfl⟩ := List.mem_map.1 hf
    have h2 := crN_le (keep := keep) (h.sf g hg).1
    show crN keep g = (cut g.data (crN keep g)).size
    rw [cut_size h2]
theorem DF.of {dt : ByteArray} (h : dt.size ≤ 1099511627776) : DF (jf dt dt.size) dt := by
  refine ⟨fun f hf => ?_, by simp [jf], fun r hr => ?_, fun f hf => ?_, fun f hf _ => ?_⟩
  · rw [List.mem_singleton.1 hf]; exact Or.inl rfl
  · rcases hr with ⟨_, q⟩ | ⟨i, hi, e, _⟩
    · exact absurd rfl (q 0 (by simp [jf]))
    · have : i = 0 := by simp [jf] at hi; exact hi
      subst this
      rw [e]
      rfl
  · rw [List.mem_singleton.1 hf]; exact ⟨Nat.le_refl _, h⟩
  · rw [List.mem_singleton.1 hf]
/-- .. with a draft. -/
theorem DF.draft {dt R : ByteArray} {sf : Nat} (h : dt.size ≤ 1099511627776) (hR : R.size ≤ 1099511627776) (hs : sf ≤ R.size) : DF (jf dt dt.size ++ [⟨dnm, R, sf⟩]) dt := by
  refine ⟨fun f hf => ?_, by simp [jf], fun r hr => ?_, fun f hf => ?_, fun f hf hn => ?_⟩
  · rcases List.mem_append.1 hf with q | q
    · rw [List.mem_singleton.1 q]; exact Or.inl rfl
    · rw [List.mem_singleton.1 q]; exact Or.inr rfl
  · rcases hr with ⟨_, q⟩ | ⟨i, hi, e, q1, q2⟩
    · exact absurd rfl (q 0 (by simp [jf]))
    · by_cases h0 : i = 0
      · subst h0
        rw [e]
        rfl
      · exact absurd rfl (q2 0 (by omega))
  · rcases List.mem_append.1 hf with q | q
    · rw [List.mem_singleton.1 q]; exact ⟨Nat.le_refl _, h⟩
    · rw [List.mem_singleton.1 q]; exact ⟨hs, hR⟩
  · rcases List.mem_append.1 hf with q | q
    · rw [List.mem_singleton.1 q]
    · rw [List.mem_singleton.1 q] at hn
      exact absurd hn dnm_ne
theorem wo_jf (dt : ByteArray) (sf : Nat) : wo dnm (jf dt sf) = jf dt sf := by
  unfold wo jf
  rw [List.filter_cons, if_pos (by simpa using dnm_ne.symm)]
  rfl
theorem DF.opN {dt R : ByteArray} (h : dt.size ≤ 1099511627776) (hR : R.size ≤ 1099511627776) (l : Nat) (hl : l ≤ 4) : DF (opN (jf dt dt.size) R l) dt ∨ DF (opN (jf dt dt.size) R l) R := by
  unfold Go.Proofs.YtkncboinfcnklabGreatDoor.opN
  rcases (show l = 0 ∨ l = 1 ∨ l = 2 ∨ l = 3 ∨ l = 4 by omega) with rfl | rfl | rfl | rfl | rfl
  · exact Or.inl (DF.of h)
  · rw [if_neg (by omega)]
    show DF (wo dnm _) dt ∨ _
    rw [wo_jf]
    exact Or.inl (DF.of h)
  · rw [if_neg (by omega)]
    show DF (wo dnm _ ++ _) dt ∨ _
    rw [wo_jf]
    exact Or.inl (DF.draft h hR (Nat.zero_le _))
  · rw [if_neg (by omega)]
    show DF (wo dnm _ ++ _) dt ∨ _
    rw [wo_jf]
    exact Or.inl (DF.draft h hR (Nat.le_refl _))
  · rw [if_pos rfl]
    exact Or.inr (DF.of hR)
/-- What records and torn bytes a disk has, and what they tell. -/
def Told (X : Xt) (clock : Nat) (all : List Ent) (rs : List Rc) : Prop := rcP rs = (clock, all) ∨ (∃ s, X.tx = [s] ∧ rcP rs = (clock, all ++ [⟨(all.length : Int), (clock : Int), s⟩])) ∨ (0 < X.tk ∧ rcP rs = (clock + X.tk, all))
structure Left (X : Xt) (M clock : Nat) (all : List Ent) (dt : ByteArray) (rs : List Rc) : Prop where
  ex : ∃ t, tb dt = rcL rs ++ t ∧ Torn t
  ok : ∀ x ∈ rs, x.ok
  len : rs.length ≤ M
  told : Told X clock all rs
  sz : dt.size ≤ 1099511627776
theorem torn_nil : Torn [] := Or.inl (by simp)
theorem Left.whole {X : Xt} {M clock : Nat} {all : List Ent} {dt R : ByteArray} {rs : List Rc} (h : Left X M clock all dt rs) (hR : tb R = rcL rs) : Left X M clock all R rs := by
  obtain ⟨t, e, _⟩ := h.ex
  refine ⟨⟨[], by rw [hR, List.append_nil], torn_nil⟩, h.ok, h.len, h.told, ?_⟩
  have h1 := tb_len R
  have h2 := tb_len dt
  have h3 := h.sz
  rw [e, List.length_append] at h2
  rw [hR] at h1
  omega
theorem torn_take (r : Rc) (hr : r.ok) {m : Nat} (hm : m < r.l.length) : Torn (r.l.take m) := by
  have hl := r.l_len
  have hs := Rc.size hr
  by_cases h2 : m < 2
  · exact Or.inl (by rw [List.length_take]; omega)
  · refine Or.inr ⟨r.s.size, ?_, by omega, by rw [List.length_take]; omega, by rw [List.length_take]; omega⟩
    obtain ⟨k, rfl⟩ : ∃ k, m = k + 2 := ⟨m - 2, by omega⟩
    rfl
theorem Dk.crash {X : Xt} {G : Gh} {M clock : Nat} {all : List Ent} (h : Dk X G M clock all) (hd : G.dt.size ≤ 1099511627776) (keep : Int) : ∃ dt1 rs1, (jf G.dt G.sf).map (cr keep) = jf dt1 dt1.size ∧ Left X M clock all dt1 rs1 ∧ G.sf ≤ G.dt.size := by
  obtain ⟨rs, a, b, c, d, t, e, f⟩ := h.rcd
  have hl := tb_len G.dt
  rw [e, List.length_append] at hl
  have hsf : G.sf ≤ G.dt.size := by omega
  obtain ⟨n, hn⟩ : ∃ n, n = crN keep ⟨jnm, G.dt, G.sf⟩ := ⟨_, rfl⟩
  have hn1 : n ≤ G.dt.size := by rw [hn]; exact crN_le hsf
  have hn2 : G.sf ≤ n := by
    rw [hn]
    unfold crN
    split
    · exact Nat.le_refl _
    · split
      · exact Nat.le_add_right _ _
      · exact hsf
  have hmap : (jf G.dt G.sf).map (cr keep) = jf (cut G.dt n) (cut G.dt n).size := by
    rw [cut_size hn1, hn]
    rfl
  have htb : tb (cut G.dt n) = rcL rs ++ t.take (n - (rcL rs).length) := by
    rw [tb_cut, e, List.take_append, List.take_of_length_le (by omega)]
  have hsz : (cut G.dt n).size ≤ 1099511627776 := by rw [cut_size hn1]; omega
  have hone : ∀ r : Rc, r.ok → t = r.l → Told X clock all (rs ++ [r]) → 1 ≤ X.pnd → ∃ rs1, Left X M clock all (cut G.dt n) rs1 := by
    intro r hr ht hto hp1
    by_cases hw : n - (rcL rs).length < r.l.length
    · exact ⟨rs, ⟨⟨_, htb, by rw [ht]; exact torn_take r hr hw⟩, a, by omega, Or.inl c, hsz⟩⟩
    · refine ⟨rs ++ [r], ⟨⟨[], ?_, torn_nil⟩, fun x hx => ?_, by rw [List.length_append, List.length_singleton]; omega, hto, hsz⟩⟩
      · rw [htb, ht, List.take_of_length_le (by omega), rcL_snoc, List.append_nil]
      · rcases List.mem_append.1 hx with q | q
        · exact a x q
        · rw [List.mem_singleton.1 q]; exact hr
  rcases f with rfl | ⟨_, ⟨s, f1, f2⟩ | ⟨f1, f2⟩⟩
  · exact ⟨_, rs, hmap, ⟨⟨[], by rw [htb]; simp, torn_nil⟩, a, by omega, Or.inl c, hsz⟩, hsf⟩
  · have hs60 : s.size ≤ 60 := by
      rcases h.tx with q | ⟨s', q, q2, _⟩
      · rw [q] at f1; cases f1
      · rw [q] at f1; injection f1 with f1 _; rw [← f1]; exact q2
    obtain ⟨rs1, h1⟩ := hone (.lay s) hs60 f2 (Or.inr (Or.inl ⟨s, f1, by rw [rcP_snoc, c]; rfl⟩)) (by unfold Xt.pnd; rw [f1]; simp)
    exact ⟨_, rs1, hmap, h1, hsf⟩
  · obtain ⟨rs1, h1⟩ := hone (.tick X.tk) (by show X.tk ≤ 1000000; have := h.tk.1; omega) f2 (Or.inr (Or.inr ⟨f1, by rw [rcP_snoc, c]; rfl⟩)) (by unfold Xt.pnd; rw [if_neg (by omega)]; omega)
    exact ⟨_, rs1, hmap, h1, hsf⟩

/-! ### the log over what is left -/
theorem over_ok {X : Xt} {M clock : Nat} {all : List Ent} {dt : ByteArray} {rs : List Rc} (h : Left X M clock all dt rs) (hk : AllOk all clock) (hc : X.tk ≤ 1000 ∧ clock + X.tk ≤ 1000000000000) (hx : ∀ s, X.tx = [s] → s.size ≤ 60) : AllOk (rcP rs).2 (rcP rs).1 ∧ (rcP rs).1 ≤ 1000000000000 := by
  rcases h.told with e | ⟨s, q, e⟩ | ⟨q, e⟩
  · rw [e]; exact ⟨hk, by show clock ≤ _; omega⟩
  · rw [e]; exact ⟨hk.snoc (hx s q), by show clock ≤ _; omega⟩
  · rw [e]; exact ⟨hk.later, hc.2⟩
theorem Inv.over {m f bk n kp bt : Nat} (hc : cfgB m f bk n kp bt = true) {rs : List Rc} (hk : AllOk (rcP rs).2 (rcP rs).1) (hcl : (rcP rs).1 ≤ 1000000000000) : Inv (Lg.over m f bk n kp bt rs) (rcP rs).2 := by
  have h0 := Kp.Inv.new hc
  have hcf := h0.cfg
  have hct : ∀ i, ct (Lg.new m f bk n kp bt).wks i = 0 := fun i => by simp [Lg.new, ct, wk0, tc]
  have hrd := h0.rd
  unfold Lg.over
  by_cases he : (rcP rs).2.length = 0
  · rw [if_pos he]
    have he' := List.length_eq_zero_iff.1 he
    refine ⟨hcf, hcl, hk, rfl, ?_, ?_, ?_, h0.ml, fun i => by show ct (Lg.new m f bk n kp bt).wks i ≤ 1; rw [hct]; omega, fun i hi => ?_, fun i hi hl => ?_, hrd, (fun x p hp => by cases hp)⟩
    · rw [sto_eq]
      simp [Lg.over0, Lg.new]
    · rw [he']; intro e he; cases he
    · intro es hes
      rw [segs_eq] at hes
      simp [Lg.over0, Lg.new] at hes
    · have : 0 < ct (Lg.new m f bk n kp bt).wks i := hi
      rw [hct] at this; omega
    · have h2 : f ≤ 0 := hl
      have := hcf.2.1.1
      have : 2 ≤ f := this
      omega
  · rw [if_neg he]
    refine ⟨hcf, hcl, hk, rfl, ?_, ?_, ?_, h0.ml, fun i => by show ct (Lg.new m f bk n kp bt).wks i ≤ 1; rw [hct]; omega, fun i hi => ?_, fun i hi hl => ?_, hrd, (fun x p hp => by cases hp)⟩
    · rw [sto_eq]
      simp [Lg.over0, Lg.new, Lg.put]
    · intro e he hno
      exfalso
      apply hno
      rw [sto_eq]
      simp only [Lg.over0, Lg.new, Lg.put]
      simp [he]
    · intro es hes
      rw [segs_eq] at hes
      simp [Lg.over0, Lg.new, Lg.put] at hes
      rw [hes]
      intro q
      exact he (by rw [q]; rfl)
    · have : 0 < ct (Lg.new m f bk n kp bt).wks i := hi
      rw [hct] at this; omega
    · have h2 : f ≤ 0 := by
        have h3 : f ≤ (((Lg.over0 m f bk n kp bt rs).put 5 (rcP rs).2).lev i).length := hl
        have h4 : (((Lg.over0 m f bk n kp bt rs).put 5 (rcP rs).2).lev i) = [] := by
          show (if i = 5 then _ else _) = _
          rw [if_neg (by omega)]
          rfl
        rw [h4] at h3
        exact h3
      have := hcf.2.1.1
      have : 2 ≤ f := this
      omega
theorem over_same (m f bk n kp bt : Nat) (rs : List Rc) : (Lg.over m f bk n kp bt rs).memory = m ∧ (Lg.over m f bk n kp bt rs).fan = f ∧ (Lg.over m f bk n kp bt rs).back = bk ∧ (Lg.over m f bk n kp bt rs).keep = kp ∧ (Lg.over m f bk n kp bt rs).batch = bt ∧ (Lg.over m f bk n kp bt rs).clock = (rcP rs).1 ∧ (Lg.over m f bk n kp bt rs).wks.length = n ∧ (Lg.over m f bk n kp bt rs).mem = [] ∧ (Lg.over m f bk n kp bt rs).count = (rcP rs).2.length := by
  unfold Lg.over
  split <;> simp [Lg.over0, Lg.new, Lg.put]
theorem TlR.over (m f bk n kp bt : Nat) (rs : List Rc) (k : Nat) : TlR (Lg.over m f bk n kp bt rs) [] k := by
  have h : (Lg.over m f bk n kp bt rs).tls = (fun _ => none) ∧ (Lg.over m f bk n kp bt rs).subs = 0 ∧ (Lg.over m f bk n kp bt rs).tn = 0 := by
    unfold Lg.over
    split <;> exact ⟨rfl, rfl, rfl⟩
  exact ⟨fun i hi => absurd hi (Nat.not_lt_zero _), fun i hi => absurd hi (Nat.not_lt_zero _), fun x _ => by rw [h.1], h.2.1, by rw [h.2.2]; omega⟩
end Go.Proofs.YtkncboinfcnklabGreatDoor.Kq
