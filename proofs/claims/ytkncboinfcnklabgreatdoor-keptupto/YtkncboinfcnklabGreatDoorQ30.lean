import Derived.Test.YtkncboinfcnklabGreatDoorQ25
import Derived.Test.YtkncboinfcnklabGreatDoorQ27
import Derived.Test.YtkncboinfcnklabGreatDoorQ29
namespace Go.Proofs.YtkncboinfcnklabGreatDoor.Kq
open Go.RowKit Go.Deep Go.Shelf Go.Proofs.YtkncboinfcnklabGreatDoor.Mth Go.Proofs.YtkncboinfcnklabGreatDoor.Kp

theorem shC_fine (lb : Nat) (hb : Xt) (L : Lg) (av tv : Value) : (shC lb hb L av tv).setIfInBounds 13 (.bool true) = shC lb hb L av tv := by simp [shC]
theorem shC_all (lb : Nat) (hb : Xt) (L : Lg) (av av' tv : Value) : (shC lb hb L av tv).setIfInBounds 8 av' = shC lb hb L av' tv := by simp [shC]
theorem shC_tls (lb : Nat) (hb : Xt) (L : Lg) (av tv tv' : Value) : (shC lb hb L av tv).setIfInBounds 12 tv' = shC lb hb L av tv' := by simp [shC]
theorem shC_clock (lb : Nat) (hb : Xt) (L : Lg) (av tv : Value) (n : Nat) : (shC lb hb L av tv).setIfInBounds 9 (.int .i64 ((L.clock + n : Nat) : Int)) = shC lb hb { L with clock := L.clock + n } av tv := by simp [shC]
/-- 'fine' is set, as it was. -/
theorem Sh.fine {w : World} {ρ : Nat → Nat} {B N M lb sb : Nat} {hb : Xt} {G : Gh} {L : Lg} {all : List Ent} {tls : List Fo} {av tv : Value} (h : Sh w ρ B N M lb sb hb G L all tls av tv) (hB : B ≤ w.heap.size) : ShX w (w.setCell ⟨sb, 13, none⟩ (.bool true)) B N M lb sb hb L all tls := by
  obtain ⟨a1, a2, a3⟩ := ShM.set h.log h.mem 13 (.bool true)
  rw [shC_fine] at a2
  exact ⟨⟨ρ, G, av, tv, a1, a2, h.inv, h.dk, h.bud, h.tl⟩, a3 hB⟩
theorem Sh.cell {w : World} {ρ : Nat → Nat} {B N M lb sb : Nat} {hb : Xt} {G : Gh} {L : Lg} {all : List Ent} {tls : List Fo} {av tv : Value} (h : Sh w ρ B N M lb sb hb G L all tls av tv) {j : Nat} {u : Value} (hj : (shC lb hb L av tv)[j]? = some u) : w.cell? ⟨sb, j, none⟩ = some u ∧ w.frozen? ⟨sb, j, none⟩ = false := cell_of h.mem.blk hj
theorem ShX.pre {w w1 w2 : World} {B N M lb sb : Nat} {hb : Xt} {L : Lg} {all : List Ent} {tls : List Fo} (hb' : Below B w w1) (h : ShX w1 w2 B N M lb sb hb L all tls) : ShX w w2 B N M lb sb hb L all tls := ⟨h.ex, hb'.trans h.bel⟩
theorem ShX.mono {w w1 : World} {B N M M' lb sb : Nat} {hb : Xt} {L : Lg} {all : List Ent} {tls : List Fo} (h : ShX w w1 B N M lb sb hb L all tls) (hM : M ≤ M') : ShX w w1 B N M' lb sb hb L all tls := by
  obtain ⟨⟨ρ, G, av, tv, h1⟩, h2⟩ := h
  exact ⟨⟨ρ, G, av, tv, h1.mono hM⟩, h2⟩
theorem app_clock (L : Lg) (s : ByteArray) : (L.app s).clock = L.clock := by
  unfold Lg.app Lg.more
  split <;> rfl
theorem belowB {B : Nat} {w w' : World} (h : Below w.heap.size w w') (hB : B ≤ w.heap.size) : Below B w w' := ⟨h.os, h.tape, h.output, h.size, fun k hk => h.block k (by omega)⟩

set_option maxRecDepth 100000 in
set_option maxHeartbeats 1000000 in
theorem lays_long {w : World} {ρ : Nat → Nat} {B N M lb sb : Nat} {hb : Xt} {G : Gh} {L : Lg} {all : List Ent} {tls : List Fo} {av tv : Value} (h : Sh w ρ B N M lb sb hb G L all tls av tv) (hB : B ≤ w.heap.size) (q0 : G.left ≠ 0) (s : ByteArray) (hs : 60 < s.size) (hs2 : s.size ≤ 1048576) :
    Calls Tryz.prog 19 #[ptrV sb, .string s] w fun e w' => e = .returned (.tuple #[]) ∧ ShX w w' B N M lb sb hb L all tls := by
  have CA := hide (append_long h.log s q0 hs (by omega))
  have HF := hide (h.fine hB)
  obtain ⟨c0, _⟩ := h.cell (j := 0) (u := ptrV lb) rfl
  obtain ⟨c13, f13⟩ := h.cell (j := 13) (u := .bool true) rfl
  have h60 : (60 : Int) < (s.size : Int) := by omega
  clear h hs q0
  go_enter Tryz.func19, Tryz.ntmps19
  go_wp2_with (first | (go_at_call 40; refine CA.out.mono ?_; rintro e w' ⟨rfl, hw'⟩; rw [hw']; clear hw' w'))
  go_end0
  exact ⟨rfl, HF.out⟩

set_option maxRecDepth 100000 in
set_option maxHeartbeats 1000000 in
theorem lays_busy {w : World} {ρ : Nat → Nat} {B N M lb sb : Nat} {hb : Xt} {G : Gh} {L : Lg} {all : List Ent} {tls : List Fo} {av tv : Value} (h : Sh w ρ B N M lb sb hb G L all tls av tv) (hB : B ≤ w.heap.size) (q0 : G.left ≠ 0) (s : ByteArray) (hs : s.size ≤ 60) (hf : L.memory ≤ L.mem.length) (hb0 : L.fan + L.back ≤ (L.lev 0).length) (hM : M ≤ 400000) :
    Calls Tryz.prog 19 #[ptrV sb, .string s] w fun e w' => e = .returned (.tuple #[]) ∧ ShX w w' B N M lb sb hb L all tls := by
  have hcf := h.inv.cfg
  have hlv := h.inv.lev 0 (by omega)
  have hbd := h.bud
  have CA := hide (append_busy h.log s q0 hs hf hb0 hcf.2.1.2 hcf.2.2.1 (by omega))
  have hpd : 0 < pends L.wks := by
    have hc := h.inv.due 0 (by omega) (by omega)
    by_cases h0 : pends L.wks = 0
    · have := h.inv.rest h0 0 (by omega)
      omega
    · omega
  have hpd5 := h.inv.pendsLe
  have CP : Hid (∀ W, Below w.heap.size w W → W.cell? ⟨sb, 0, none⟩ = some (ptrV lb) ∧ Calls Tryz.prog 41 #[ptrV lb] W fun e w' => e = .returned (.int .i64 (pends L.wks : Int)) ∧ Below W.heap.size W w') := fun W hb' => ⟨((h.below hb').cell (j := 0) (u := ptrV lb) rfl).1, pend_any (h.below hb').log.x⟩
  have HF : Hid (∀ W, Below w.heap.size w W → W.cell? ⟨sb, 13, none⟩ = some (.bool true) ∧ W.frozen? ⟨sb, 13, none⟩ = false ∧ ShX w (W.setCell ⟨sb, 13, none⟩ (.bool true)) B N M lb sb hb L all tls) := fun W hb' => ⟨((h.below hb').cell (j := 13) (u := .bool true) rfl).1, ((h.below hb').cell (j := 13) (u := .bool true) rfl).2, ((h.below hb').fine (Nat.le_trans hB hb'.size)).pre (belowB hb' hB)⟩
  obtain ⟨c0, _⟩ := h.cell (j := 0) (u := ptrV lb) rfl
  have hpI : (0 : Int) < (pends L.wks : Int) := by omega
  clear h hf hb0 hcf hlv hbd q0
  generalize pends L.wks = pn at *
  go_enter Tryz.func19, Tryz.ntmps19
  go_wp2_with (first
    | (go_at_call 40; refine CA.out.mono ?_; rintro e w2 ⟨rfl, hb2⟩; have HB2 := hide hb2; obtain ⟨d0, hcp⟩ := CP.out w2 hb2; have HCP := hide hcp; clear hb2 hcp)
    | (go_at_call 41; refine HCP.out.mono ?_; rintro e w3 ⟨rfl, hb3⟩; obtain ⟨d13, f13, hx⟩ := HF.out w3 (HB2.out.trans (hb3.mono HB2.out.size)); have HX := hide hx; clear hb3 hx))
  go_end0
  exact ⟨rfl, HX.out⟩

set_option maxRecDepth 100000 in
set_option maxHeartbeats 2000000 in
theorem lays_ok {w : World} {ρ : Nat → Nat} {B N M lb sb : Nat} {hb : Xt} {G : Gh} {L : Lg} {all : List Ent} {tls : List Fo} {av tv : Value} (h : Sh w ρ B N M lb sb hb G L all tls av tv) (hB : B ≤ w.heap.size) (q0 : G.left ≠ 0) (q1 : G.left ≠ 1) (ht : TabB B w) (s : ByteArray) (hs : s.size ≤ 60) (hn : ¬ (L.memory ≤ L.mem.length ∧ L.fan + L.back ≤ (L.lev 0).length)) (hM : M ≤ 400000) :
    Calls Tryz.prog 19 #[ptrV sb, .string s] w fun e w' => e = .returned (.tuple #[]) ∧ ShX w w' B N (M + 1) lb sb hb (L.app s) (all ++ [⟨(all.length : Int), (L.clock : Int), s⟩]) tls := by
  obtain ⟨i0, hi0, hz0, hz1, hz2⟩ := info_parts Tryz.info49
  have hcf := h.inv.cfg
  have hbd := h.bud
  have hml := h.inv.ml
  have hcnt := h.inv.cnt
  have CA0 := append_ok h.log hB ht s q0 q1 h.dk.left.1 (by have := h.dk.left.2; omega) hs hn hcf.2.1.2 hcf.2.2.1 (fun i hi => by have := h.inv.lev i hi; omega) (by omega) (by omega) (by omega)
  have HS2 : Hid (∀ w2, Apd w w2 ρ B N lb G (L.app s) (G.dt ++ recB 0 s) (decL (decL G.left)) → ∃ ρ2 G2, LogAt w2 ρ2 B N lb G2 (L.app s) ∧ ShM w2 ρ2 B sb hb (shC lb hb L av tv) all tls av tv ∧ Below B w w2 ∧ Dk hb G2 (M + 1) (L.app s).clock (all ++ [⟨(all.length : Int), (L.clock : Int), s⟩]) ∧ G2.dt.size ≤ 64 * (M + 1)) := by
    intro w2 ha
    obtain ⟨⟨ρ2, G2, a1, a2, a3, a4, a5⟩⟩ := ha
    refine ⟨ρ2, G2, a1, h.mem.keep a2, below_lstp (Below.refl B w) a2 h.log.x.lt hB, ?_, ?_⟩
    · rw [app_clock]; exact h.dk.put q0 (.lay s) hs a3.1.sb a5 a4 a3.2 h.inv.clk
    · rw [a4, ByteArray.size_append, recB_size]; omega
  have HI := hide (h.inv.app hs)
  have HTL : Hid (TlR (L.app s) tls (all.length + 1)) := h.tl.mono (by omega) (by unfold Lg.app Lg.more; split <;> rfl) (by unfold Lg.app Lg.more; split <;> rfl) (by unfold Lg.app Lg.more; split <;> rfl)
  rw [hcnt] at CA0
  have CA := hide CA0
  obtain ⟨c0, _⟩ := h.cell (j := 0) (u := ptrV lb) rfl
  obtain ⟨va, vc, hva, hvc, hvm⟩ := own_slice h.mem.row
  subst hva
  unfold maxLen at hvm
  have hclk := h.inv.clk
  have h60 : ¬ (60 : Int) < (s.size : Int) := by omega
  clear h CA0 hcf hml hcnt hn ht q0 q1
  have HSC : Hid (∀ av tv, shC lb hb (L.app s) av tv = shC lb hb L av tv) := fun av tv => shC_app lb hb L s av tv
  generalize hLA : L.app s = LA at *
  have HLA := hide hLA
  clear hLA
  generalize hal : all.length = n at *
  have HAL := hide hal
  clear hal
  go_enter Tryz.func19, Tryz.ntmps19
  go_upto_region 2 with (first | (go_at_call 40; refine CA.out.mono ?_; rintro e w2 ⟨rfl, ha⟩; obtain ⟨ρ2, G2, hl2, hm2, hB2, hlf2, hdt2⟩ := HS2.out w2 ha; clear ha))
  have hBw2 : B ≤ w2.heap.size := Nat.le_trans hB hB2.size
  obtain ⟨c8, f8⟩ := cell_of (j := 8) (u := .slice va n vc) hm2.blk rfl
  obtain ⟨c9, _⟩ := cell_of (j := 9) (u := .int .i64 (L.clock : Int)) hm2.blk rfl
  have c8' := cellA (o := Obj.cells #[.int .i64 (n : Int), .int .i64 (L.clock : Int), .string s] 49) c8
  have hrow2 := hm2.row
  rw [HAL.out] at hrow2
  have HROW := hide hrow2
  have HL2 := hide hl2
  have HM2 := hide hm2
  have HB2 := hide hB2
  clear hl2 hm2 hB2 hrow2 HS2 CA
  go_upto_region 3 with fail
  go_region_law (refine step_own_at _ rfl _ _ 33 rfl B 49 i0 (.agg #[.int .i64 0, .int .i64 0, .string ByteArray.empty]) 3 32 Tryz.underlying33 hi0 hz0 hz1 hz2 rfl (by decide) _ _ _ rfl (by exact HROW.out.alloc _) ⟨w2.heap.size, 0, none⟩ 1 1 [.int .i64 (n : Int), .int .i64 (L.clock : Int), .string s] rfl rfl (by exact cell_three_new w2.drew _ _ _ _) (by intro u hu; simp at hu; rcases hu with rfl | rfl | rfl <;> rfl) (by unfold maxLen; omega) (by omega) (by simp; omega) ?_; intro v5 W5 o5 g5 n5; obtain ⟨a5, c5, rfl, hc5, hm5⟩ := own_slice o5; have g6 : (w2.alloc (Obj.cells #[.int .i64 (n : Int), .int .i64 (L.clock : Int), .string s] 49)).grownBy W5 (Value.slice va n vc).ownBlock := ⟨g5.os, g5.tape, g5.output, g5.size, g5.block⟩; have KM := hide (ShM.more (e := ⟨(n : Int), (L.clock : Int), s⟩) HL2.out HM2.out hBw2 (by rw [HAL.out]; exact o5) g6 n5); obtain ⟨fb, ff⟩ := cell_of (j := 8) (u := .slice va n vc) KM.out.1 rfl; clear o5 g5 g6 n5)
  all_goals (
    obtain ⟨_, k2, k3, k4⟩ := KM.out
    rw [shC_all] at k3
    obtain ⟨d8, _⟩ := cell_of (j := 8) (u := .slice a5 (n + 1) c5) k3.blk rfl
    have FIN : Hid (ShX w (W5.setCell ⟨sb, 8, none⟩ (.slice a5 (n + 1) c5)) B N (M + 1) lb sb hb LA (all ++ [⟨(n : Int), (L.clock : Int), s⟩]) tls) := ⟨⟨ρ2, G2, _, tv, k2, by rw [HSC.out]; exact k3, HI.out, hlf2, ⟨hdt2, by rw [List.length_append, HAL.out]; simp; omega, by omega⟩, by rw [List.length_append, HAL.out]; exact HTL.out⟩, HB2.out.trans k4⟩
    clear KM k2 k3 k4 c8 c8' c9 f8 fb ff
    generalize W5.setCell ⟨sb, 8, none⟩ (.slice a5 (n + 1) c5) = W6 at *
    have hnn : ((n + 1 : Nat) : Int) - 1 = (n : Int) := by omega
    go_wp2_with fail
    go_end0
    exact ⟨rfl, FIN.out⟩)
end Go.Proofs.YtkncboinfcnklabGreatDoor.Kq

namespace Go.Proofs.YtkncboinfcnklabGreatDoor
open Go.RowKit Go.Deep Go.Shelf Go.Proofs.YtkncboinfcnklabGreatDoor.Mth

set_option maxRecDepth 100000 in
set_option maxHeartbeats 4000000 in
theorem new_down {w : World} {B b d : Nat} {fs : List Fl} {l : Nat} {fv : Value} (m f bk n kp bt : Nat) (hc : cfgB m f bk n kp bt = true) (h : St 82 87 w B b fs (l : Int) fv) (hp : Ptr 104 w d b) (hB : B ≤ w.heap.size) (hl : l ≤ 4) (hfs : JD fs) (hlen : fs.length ≤ 1000) {dt : ByteArray} (hD : jDat fs dt) {rs : List Rc} {t : List Int} (hr : tb dt = rcL rs ++ t) (htn : Torn t) (hok : ∀ x ∈ rs, x.ok) (hnr : rs.length ≤ 1000000) (hrs : dt.size ≤ 1099511627776) (hcl : (rcP rs).1 ≤ 1000000000000) :
    Calls Tryz.prog 16 #[.agg #[.int .i64 (m : Int), .int .i64 (f : Int), .int .i64 (bk : Int), .int .i64 (n : Int), .int .i64 (kp : Int), .int .i64 (bt : Int)], ptrV d] w fun e w' => e = .returned (.tuple #[.pointer none, .int .i64 3]) ∧ ∃ fv' R, tb R = rcL rs ∧ Stp 82 87 B b w w' fv (opN fs R l) 0 fv' := by
  have hb1 := below_allocG w (Obj.cells #[.int .i64 (m : Int), .int .i64 (f : Int), .int .i64 (bk : Int), .int .i64 (n : Int), .int .i64 (kp : Int), .int .i64 (bt : Int)] 32)
  have hk1 := new_blk w #[.int .i64 (m : Int), .int .i64 (f : Int), .int .i64 (bk : Int), .int .i64 (n : Int), .int .i64 (kp : Int), .int .i64 (bt : Int)] 32
  obtain ⟨w1, hw1⟩ : ∃ w1, w1 = w.alloc (Obj.cells #[.int .i64 (m : Int), .int .i64 (f : Int), .int .i64 (bk : Int), .int .i64 (n : Int), .int .i64 (kp : Int), .int .i64 (bt : Int)] 32) := ⟨_, rfl⟩
  rw [← hw1] at hb1 hk1
  obtain ⟨nb, hnb⟩ : ∃ nb, nb = w.heap.size := ⟨_, rfl⟩
  rw [← hnb] at hk1
  have CC := hide (isConfig_any m f bk n kp bt w1)
  rw [hc] at CC
  have CD : Hid (∀ W, Below w1.heap.size w1 W → Calls Tryz.prog 34 #[ptrV d] W fun e w' => e = .returned (.bool true) ∧ w' = W) := fun W hb => isDisk_any (hp.below (hb1.trans (hb.mono hb1.size)))
  have CO : Hid (∀ W, Below w1.heap.size w1 W → Calls Tryz.prog 35 #[ptrV d] W fun e w' => e = .returned (.tuple #[.pointer none, .slice none 0 0, .bool false]) ∧ ∃ fv' R, tb R = rcL rs ∧ Stp 82 87 B b w w' fv (opN fs R l) 0 fv') := by
    intro W hb
    have hbb := hb1.trans (hb.mono hb1.size)
    refine (open_no (h.below hbb) (hp.below hbb) (Nat.le_trans hB hbb.size) hl hfs hlen hD hr htn hok hnr hrs hcl).mono ?_
    rintro e w' ⟨rfl, fv', R, hR, hs⟩
    refine ⟨rfl, fv', R, hR, hs.st, ⟨hs.tch.os.trans hbb.os, hs.tch.tape.trans hbb.tape, hs.tch.output.trans hbb.output, Nat.le_trans hbb.size hs.tch.size, fun k hk hne => (hs.tch.block k (Nat.lt_of_lt_of_le hk hbb.size) hne).trans (hbb.block k hk)⟩, fun g hg => ?_⟩
    rcases hs.new g hg with q | q
    · exact Or.inl q
    · exact Or.inr (Nat.le_trans hbb.size q)
  obtain ⟨a0, _⟩ := cell_of (j := 0) (u := .int .i64 (m : Int)) hk1 rfl
  obtain ⟨a1, _⟩ := cell_of (j := 1) (u := .int .i64 (f : Int)) hk1 rfl
  obtain ⟨a2, _⟩ := cell_of (j := 2) (u := .int .i64 (bk : Int)) hk1 rfl
  obtain ⟨a3, _⟩ := cell_of (j := 3) (u := .int .i64 (n : Int)) hk1 rfl
  obtain ⟨a4, _⟩ := cell_of (j := 4) (u := .int .i64 (kp : Int)) hk1 rfl
  obtain ⟨a5, _⟩ := cell_of (j := 5) (u := .int .i64 (bt : Int)) hk1 rfl
  have HW1 := hide hw1
  have HNB := hide hnb
  clear h hp hb1 hk1 hw1 hc hl hfs hlen hD hr htn hok hnr hrs hcl
  go_enter Tryz.func16, Tryz.ntmps16
  go_upto_region 1 with fail
  rw [← HW1.out, ← HNB.out]
  clear hnb
  go_wp2_with (first
    | (go_at_call 33; refine CC.out.mono ?_; rintro e w2 ⟨rfl, hb2⟩; have HB2 := hide hb2; clear hb2)
    | (go_at_call 34; refine (CD.out _ HB2.out).mono ?_; rintro e w' ⟨rfl, rfl⟩)
    | (go_at_call 35; refine (CO.out _ HB2.out).mono ?_; rintro e w3 ⟨rfl, ho3⟩; have HO3 := hide ho3; clear ho3))
  go_ret2
  exact ⟨rfl, HO3.out⟩
end Go.Proofs.YtkncboinfcnklabGreatDoor

namespace Go.Proofs.YtkncboinfcnklabGreatDoor.Kq
open Go.RowKit Go.Deep Go.Shelf Go.Proofs.YtkncboinfcnklabGreatDoor.Mth Go.Proofs.YtkncboinfcnklabGreatDoor.Kp

/-- No block is a log's. -/
def z0 (_ : Nat) : Nat := 0
theorem ShM.bare {w : World} {ρ : Nat → Nat} {B sb : Nat} {hb : Xt} {C : Array Value} {all : List Ent} {tls : List Fo} {av tv : Value} (h : ShM w ρ B sb hb C all tls av tv) : ShM w z0 B sb hb C all tls av tv :=
  ⟨h.blk, h.row, h.trow, rfl, fun _ _ => rfl, fun _ _ => rfl, h.ge, ⟨h.x.row, fun _ _ => rfl, h.x.hp, rfl, h.x.gh⟩⟩
/-- Blocks of a disk. -/
def isD (w : World) (k : Nat) : Prop := ∃ C t, w.heap[k]? = some (Obj.cells C t (0, 0)) ∧ (t = 104 ∨ t = 82 ∨ t = 87)
theorem isD_ne {w : World} {k : Nat} (h : isD w k) {C : Array Value} {t : TypeId} {fr : Nat × Nat} (hk : w.heap[k]? = some (Obj.cells C t fr)) (ht : t ≠ 104 ∧ t ≠ 82 ∧ t ≠ 87) : False := by
  obtain ⟨C', t', h1, h2⟩ := h
  have := cells_ty h1 hk
  subst this
  rcases h2 with q | q | q
  · exact ht.1 q
  · exact ht.2.1 q
  · exact ht.2.2 q
/-- The shelf's own blocks are no disk's. -/
theorem ShM.noD {w : World} {ρ : Nat → Nat} {B sb : Nat} {hb : Xt} {C : Array Value} {all : List Ent} {tls : List Fo} {av tv : Value} (h : ShM w ρ B sb hb C all tls av tv) : ¬ isD w sb ∧ (∀ g, some g = av.ownBlock → ¬ isD w g) ∧ (∀ g, some g = tv.ownBlock → ¬ isD w g) ∧ (∀ g, some g = hb.tv.ownBlock → ¬ isD w g) ∧ ¬ isD w hb.h := by
  refine ⟨fun q => isD_ne q h.blk (by decide), fun g hg q => ?_, fun g hg q => ?_, fun g hg q => ?_, fun q => isD_ne q h.x.hp (by decide)⟩
  · obtain ⟨_, _, D, hD⟩ := own_block h.row hg
    exact isD_ne q hD (by decide)
  · obtain ⟨_, _, D, hD⟩ := own_block h.trow hg
    exact isD_ne q hD (by decide)
  · obtain ⟨_, _, D, hD⟩ := own_block h.x.row hg
    exact isD_ne q hD (by decide)
/-- .. so they do not notice what is done to a disk; and a log's numbers may be laid over them. -/
theorem ShM.disk {w w' : World} {ρ ρ' : Nat → Nat} {B sb : Nat} {hb : Xt} {C : Array Value} {all : List Ent} {tls : List Fo} {av tv : Value} (h : ShM w ρ B sb hb C all tls av tv) {S : Nat → Prop} (ht : Tch S w w') (hS : ∀ k, S k → isD w k) (hr : ∀ k, k < w.heap.size → ρ' k ≠ 0 → isD w k) : ShM w' ρ' B sb hb C all tls av tv := by
  obtain ⟨n1, n2, n3, n4, n5⟩ := h.noD
  have zr : ∀ k, k < w.heap.size → ¬ isD w k → ρ' k = 0 := fun k hk hn => by
    by_cases e : ρ' k = 0
    · exact e
    · exact absurd (hr k hk e) hn
  have zb : ∀ k, k < w.heap.size → ¬ isD w k → w'.heap[k]? = w.heap[k]? := fun k hk hn => ht.block k hk (fun q => hn (hS k q))
  have l1 := (Array.getElem?_eq_some_iff.1 h.blk).1
  have l5 := (Array.getElem?_eq_some_iff.1 h.x.hp).1
  exact ⟨(zb sb l1 n1).trans h.blk, own_same h.row (fun g hg => zb g (own_block h.row hg).2.1 (n2 g hg)), own_same h.trow (fun g hg => zb g (own_block h.trow hg).2.1 (n3 g hg)), zr sb l1 n1, fun g hg => zr g (own_block h.row hg).2.1 (n2 g hg), fun g hg => zr g (own_block h.trow hg).2.1 (n3 g hg), h.ge, ⟨own_same h.x.row (fun g hg => zb g (own_block h.x.row hg).2.1 (n4 g hg)), fun g hg => zr g (own_block h.x.row hg).2.1 (n4 g hg), (zb hb.h l5 n5).trans h.x.hp, zr hb.h l5 n5, h.x.gh⟩⟩
theorem St.isD {w : World} {B b : Nat} {fs : List Fl} {left : Int} {fv : Value} (h : St 82 87 w B b fs left fv) {k : Nat} (hk : ownD b fv k) : isD w k := by
  rcases hk with rfl | hk
  · exact ⟨_, _, h.blk, Or.inr (Or.inl rfl)⟩
  · obtain ⟨_, _, D, hD⟩ := own_block h.own hk
    exact ⟨_, _, hD, Or.inr (Or.inr rfl)⟩
theorem St.ownGe {w : World} {B b : Nat} {fs : List Fl} {left : Int} {fv : Value} (h : St 82 87 w B b fs left fv) {k : Nat} (hk : ownD b fv k) : B ≤ k := by
  rcases hk with rfl | hk
  · exact h.ge
  · exact (own_block h.own hk).1
theorem St.base {w : World} {B B' b : Nat} {fs : List Fl} {left : Int} {fv : Value} (h : St 82 87 w B b fs left fv) (hB : B' ≤ B) : St 82 87 w B' b fs left fv := ⟨h.blk, own_base h.own hB, Nat.le_trans hB h.ge⟩
theorem hand_keep {w w' : World} {B b h : Nat} {fs : List Fl} {left : Int} {fv : Value} (_hs : St 82 87 w B b fs left fv) (hp : Ptr 85 w h b) {S : Nat → Prop} (ht : Tch S w w') (hS : ∀ k, S k → isD w k) : Ptr 85 w' h b :=
  (ht.block h (Array.getElem?_eq_some_iff.1 hp).1 (fun q => isD_ne (hS h q) hp (by decide))).trans hp
/-- The disk behind a crash of the log's, and the shelf beside it. -/
structure Cr1 (w w1 : World) (B sb : Nat) (hb : Xt) (C : Array Value) (all : List Ent) (tls : List Fo) (av tv : Value) (M clock : Nat) (d h : Nat) (left : Int) : Prop where
  ex : ∃ b dt rs fv, St 82 87 w1 B b (jf dt dt.size) left fv ∧ Ptr 104 w1 d b ∧ Ptr 85 w1 h b ∧ (B ≤ d ∧ B ≤ h) ∧ Left hb M clock all dt rs
  mem : ShM w1 z0 B sb hb C all tls av tv
  bel : Below B w w1
/-- .. behind a New, or a second crash. -/
structure CrR (w w1 : World) (B sb : Nat) (hb : Xt) (C : Array Value) (all : List Ent) (tls : List Fo) (av tv : Value) (M clock : Nat) (d h : Nat) (left : Int) : Prop where
  ex : ∃ b fs dt rs fv, St 82 87 w1 B b fs left fv ∧ (left = -1 → Ptr 104 w1 d b) ∧ Ptr 85 w1 h b ∧ (B ≤ d ∧ B ≤ h) ∧ DF fs dt ∧ Left hb M clock all dt rs
  mem : ShM w1 z0 B sb hb C all tls av tv
  bel : Below B w w1
theorem Cr1.up {w w1 : World} {B sb : Nat} {hb : Xt} {C : Array Value} {all : List Ent} {tls : List Fo} {av tv : Value} {M clock d h : Nat} {left : Int} (x : Cr1 w w1 B sb hb C all tls av tv M clock d h left) : CrR w w1 B sb hb C all tls av tv M clock d h left := by
  obtain ⟨⟨b, dt, rs, fv, x1, x2, x3, x4, x5⟩, m, bl⟩ := x
  exact ⟨⟨b, _, dt, rs, fv, x1, fun _ => x2, x3, x4, DF.of x5.sz, x5⟩, m, bl⟩
/-- A crash of the log's disk. -/
theorem crash_log {w : World} {ρ : Nat → Nat} {B N M lb sb : Nat} {hb : Xt} {G : Gh} {L : Lg} {all : List Ent} {tls : List Fo} {av tv : Value} (h : Sh w ρ B N M lb sb hb G L all tls av tv) (hB : B ≤ w.heap.size) (hM : M ≤ 400000) (keep : Int) (k0 : -9223372036854775808 ≤ keep) (k1 : keep < 9223372036854775808) :
    Calls Tryz.prog 14 #[ptrV hb.h, .int .i64 keep] w fun e w' => ∃ d' h', e = .returned (.tuple #[ptrV d', ptrV h']) ∧ Cr1 w w' B sb hb (shC lb hb L av tv) all tls av tv M L.clock d' h' (-1) := by
  have hbd := h.bud
  obtain ⟨dt1, rs1, e1, hL, hsf⟩ := h.dk.crash (by omega) keep
  have hst := h.log.x.j.j.st
  have hp := h.mem.x.hp
  rw [← h.dk.sb] at hp
  refine (apiCrash_any hst hp keep k0 k1 (by simp [jf]) (fun f hf => by rw [List.mem_singleton.1 hf]; exact hsf) (fun f hf => by rw [List.mem_singleton.1 hf]; show G.dt.size ≤ _; omega)).mono ?_
  rintro e w' ⟨d', h', b', fv', rfl, g1, g2, hb', hs', hd', hh'⟩
  rw [e1] at hs'
  exact ⟨d', h', rfl, ⟨⟨b', dt1, rs1, fv', St.base hs' hB, hd', hh', ⟨Nat.le_trans hB g1, Nat.le_trans hB g2⟩, hL⟩, (h.mem.below hb').bare, belowB hb' hB⟩⟩
/-- The disk will stop. -/
theorem stop_cr {w w1 : World} {B sb : Nat} {hb : Xt} {C : Array Value} {all : List Ent} {tls : List Fo} {av tv : Value} {M clock d h : Nat} (x : Cr1 w w1 B sb hb C all tls av tv M clock d h (-1)) (hB : B ≤ w.heap.size) (n : Nat) :
    Calls Tryz.prog 15 #[ptrV h, .int .i64 (n : Int)] w1 fun e w' => e = .returned (.tuple #[]) ∧ Cr1 w w' B sb hb C all tls av tv M clock d h (n : Int) := by
  obtain ⟨⟨b, dt, rs, fv, x1, x2, x3, x4, x5⟩, m, bl⟩ := x
  refine (apiStop_any x1 x3 (n : Int)).mono ?_
  rintro e w' ⟨rfl, hs⟩
  have e1 : stopL (-1) (n : Int) = (n : Int) := by
    unfold stopL
    rw [if_neg (by omega), if_neg (by omega)]
  rw [e1] at hs
  have hB1 : B ≤ w1.heap.size := Nat.le_trans hB bl.size
  exact ⟨rfl, ⟨⟨b, dt, rs, fv, hs.st, x2.keep x1 hs.tch (by decide) (by decide), hand_keep x1 x3 hs.tch (fun k q => St.isD x1 q), x4, x5⟩, (m.disk (ρ' := z0) hs.tch (fun k q => St.isD x1 q) (fun k _ q => absurd rfl q)), below_tch bl hs.tch (fun k q => St.ownGe x1 q) hB1⟩⟩
theorem Left.nums {X : Xt} {M clock : Nat} {all : List Ent} {dt : ByteArray} {rs : List Rc} (h : Left X M clock all dt rs) (hM : M ≤ 400000) (hc : X.tk ≤ 1000 ∧ clock + X.tk ≤ 1000000000000) : rs.length ≤ 1000000 ∧ (rcP rs).1 ≤ 1000000000000 := by
  refine ⟨by have := h.len; omega, ?_⟩
  rcases h.told with e | ⟨s, q, e⟩ | ⟨q, e⟩ <;> rw [e]
  · show clock ≤ _; omega
  · show clock ≤ _; omega
  · exact hc.2
theorem new_cr_down {w w1 : World} {B sb : Nat} {hb : Xt} {C : Array Value} {all : List Ent} {tls : List Fo} {av tv : Value} {M clock d h l : Nat} (x : Cr1 w w1 B sb hb C all tls av tv M clock d h (l : Int)) (hB : B ≤ w.heap.size) (hl : l ≤ 4) (hM : M ≤ 400000) (hc : hb.tk ≤ 1000 ∧ clock + hb.tk ≤ 1000000000000) (m f bk n kp bt : Nat) (hcf : cfgB m f bk n kp bt = true) :
    Calls Tryz.prog 16 #[.agg #[.int .i64 (m : Int), .int .i64 (f : Int), .int .i64 (bk : Int), .int .i64 (n : Int), .int .i64 (kp : Int), .int .i64 (bt : Int)], ptrV d] w1 fun e w' => e = .returned (.tuple #[.pointer none, .int .i64 3]) ∧ ∃ l', CrR w w' B sb hb C all tls av tv M clock d h l' := by
  obtain ⟨⟨b, dt, rs, fv, x1, x2, x3, x4, x5⟩, mm, bl⟩ := x
  have hB1 : B ≤ w1.heap.size := Nat.le_trans hB bl.size
  obtain ⟨t, ht1, ht2⟩ := x5.ex
  have hdf := DF.of x5.sz
  obtain ⟨n1, n2⟩ := x5.nums hM hc
  refine (new_down m f bk n kp bt hcf x1 x2 hB1 hl hdf.jd (by have := hdf.len; omega) hdf.dat ht1 ht2 x5.ok n1 x5.sz n2).mono ?_
  rintro e w' ⟨rfl, fv', R, hR, hs⟩
  have hw := x5.whole hR
  have hmem := mm.disk (ρ' := z0) hs.tch (fun k q => St.isD x1 q) (fun k _ q => absurd rfl q)
  have hbl := below_tch bl hs.tch (fun k q => St.ownGe x1 q) hB1
  have hpp := hand_keep x1 x3 hs.tch (fun k q => St.isD x1 q)
  refine ⟨rfl, 0, ?_, hmem, hbl⟩
  rcases DF.opN x5.sz hw.sz l hl with q | q
  · exact ⟨b, _, dt, rs, fv', hs.st, fun q => absurd q (by omega), hpp, x4, q, x5⟩
  · exact ⟨b, _, R, rs, fv', hs.st, fun q => absurd q (by omega), hpp, x4, q, hw⟩
theorem new_cr_up {w w1 : World} {B sb : Nat} {hb : Xt} {C : Array Value} {all : List Ent} {tls : List Fo} {av tv : Value} {M clock d h l : Nat} (x : Cr1 w w1 B sb hb C all tls av tv M clock d h (l : Int)) (hB : B ≤ w.heap.size) (ht : TabB B w) (hl : 5 ≤ l ∧ l ≤ 6) (hM : M ≤ 400000) (hc : hb.tk ≤ 1000 ∧ clock + hb.tk ≤ 1000000000000) (m f bk n kp bt : Nat) (hcf : cfgB m f bk n kp bt = true) :
    Calls Tryz.prog 16 #[.agg #[.int .i64 (m : Int), .int .i64 (f : Int), .int .i64 (bk : Int), .int .i64 (n : Int), .int .i64 (kp : Int), .int .i64 (bt : Int)], ptrV d] w1 fun e w' => (∃ lb, e = .returned (.tuple #[ptrV lb, .int .i64 0])) ∧ ∃ l', CrR w w' B sb hb C all tls av tv M clock d h l' := by
  obtain ⟨⟨b, dt, rs, fv, x1, x2, x3, x4, x5⟩, mm, bl⟩ := x
  have hB1 : B ≤ w1.heap.size := Nat.le_trans hB bl.size
  obtain ⟨t, ht1, ht2⟩ := x5.ex
  have hdf := DF.of x5.sz
  obtain ⟨n1, n2⟩ := x5.nums hM hc
  refine (new_over m f bk n kp bt hcf x1 x2 hB1 x4.1 (ht.next bl) (by omega) (by omega) hdf.jd (by have := hdf.len; omega) hdf.dat ht1 ht2 x5.ok n1 x5.sz n2).mono ?_
  rintro e w' ⟨lb, rfl, ⟨ρ, G, g1, ⟨g2, g3, g4, g5⟩, g6⟩, hT⟩
  have hS : ∀ k, (k = d ∨ ownD b fv k) → isD w1 k := fun k q => by
    rcases q with q | q
    · rw [q]; exact ⟨_, _, x2, Or.inl rfl⟩
    · exact St.isD x1 q
  have hpp := hand_keep x1 x3 hT hS
  have hst := g1.x.j.j.st
  rw [g5] at hst
  rw [g4] at hst
  refine ⟨⟨lb, rfl⟩, G.left, ⟨b, _, G.dt, rs, G.fv, hst, fun q => ?_, hpp, x4, DF.of (x5.whole g3).sz, x5.whole g3⟩, mm.disk (ρ' := z0) hT hS (fun k _ q => absurd rfl q), below_tch bl hT (fun k q => by rcases q with q | q; rw [q]; exact x4.1; exact St.ownGe x1 q) hB1⟩
  rw [g2] at q
  exfalso
  unfold decL at q
  rcases (show l = 5 ∨ l = 6 by omega) with rfl | rfl <;> simp at q
/-- The second crash. -/
theorem crash_cr {w w1 : World} {B sb : Nat} {hb : Xt} {C : Array Value} {all : List Ent} {tls : List Fo} {av tv : Value} {M clock d h : Nat} {left : Int} (x : CrR w w1 B sb hb C all tls av tv M clock d h left) (hB : B ≤ w.heap.size) (keep : Int) (k0 : -9223372036854775808 ≤ keep) (k1 : keep < 9223372036854775808) :
    Calls Tryz.prog 14 #[ptrV h, .int .i64 keep] w1 fun e w' => ∃ d' h', e = .returned (.tuple #[ptrV d', ptrV h']) ∧ CrR w w' B sb hb C all tls av tv M clock d' h' (-1) := by
  obtain ⟨⟨b, fs, dt, rs, fv, x1, x2, x3, x4, x5, x6⟩, mm, bl⟩ := x
  have hB1 : B ≤ w1.heap.size := Nat.le_trans hB bl.size
  refine (apiCrash_any x1 x3 keep k0 k1 (by have := x5.len; omega) (fun f hf => (x5.sf f hf).1) (fun f hf => by have := (x5.sf f hf).2; omega)).mono ?_
  rintro e w' ⟨d', h', b', fv', rfl, g1, g2, hb', hs', hd', hh'⟩
  exact ⟨d', h', rfl, ⟨⟨b', _, dt, rs, fv', St.base hs' hB1, fun _ => hd', hh', ⟨Nat.le_trans hB1 g1, Nat.le_trans hB1 g2⟩, x5.crash keep, x6⟩, (mm.below hb').bare, bl.trans (belowB hb' hB1)⟩⟩
theorem CrR.set {w w1 : World} {B sb : Nat} {hb : Xt} {C : Array Value} {all : List Ent} {tls : List Fo} {av tv : Value} {M clock d h : Nat} {left : Int} (x : CrR w w1 B sb hb C all tls av tv M clock d h left) (hB : B ≤ w.heap.size) (j : Nat) (v : Value) : CrR w (w1.setCell ⟨sb, j, none⟩ v) B sb hb (C.setIfInBounds j v) all tls av tv M clock d h left := by
  obtain ⟨⟨b, fs, dt, rs, fv, x1, x2, x3, x4, x5, x6⟩, mm, bl⟩ := x
  have hB1 : B ≤ w1.heap.size := Nat.le_trans hB bl.size
  have hT : Tch (fun k => k = sb) w1 (w1.setCell ⟨sb, j, none⟩ v) := ⟨rfl, rfl, rfl, by simp, fun k _ hne => set_other hne⟩
  have ne : ∀ {k C' t}, w1.heap[k]? = some (Obj.cells C' t (0, 0)) → t ≠ 37 → k ≠ sb := fun hk ht' e => by
    rw [e] at hk
    exact ht' (cells_ty hk mm.blk)
  refine ⟨⟨b, fs, dt, rs, fv, x1.same (fun g hg => set_other ?_), fun q => (set_other (ne (x2 q) (by decide))).trans (x2 q), (set_other (ne x3 (by decide))).trans x3, x4, x5, x6⟩, ⟨setCell_blk mm.blk, own_set_other mm.row mm.blk (by decide), own_set_other mm.trow mm.blk (by decide), mm.rs, mm.ra, mm.rt, mm.ge, mm.x.tch hT (fun k e => by rw [e]; exact ⟨_, _, mm.blk, by decide, by decide⟩)⟩, bl.trans (below_tch (Below.refl B w1) hT (fun k e => by rw [e]; exact mm.ge) hB1)⟩
  intro e
  rw [e] at hg
  exact mm.noD.1 (St.isD x1 hg)
/-- The log that New makes of what is left. -/
structure OvR (w w1 : World) (B sb lb : Nat) (hb : Xt) (C : Array Value) (all : List Ent) (tls : List Fo) (av tv : Value) (M clock h : Nat) (m f bk n kp bt : Nat) (rs : List Rc) : Prop where
  ex : ∃ ρ G, LogAt w1 ρ B 0 lb G (Lg.over m f bk n kp bt rs) ∧ ShM w1 ρ B sb hb C all tls av tv ∧ (G.left = -1 ∧ tb G.dt = rcL rs ∧ G.sf = G.dt.size) ∧ (Ptr 85 w1 h G.sb ∧ ρ h = 0 ∧ B ≤ h)
  left : ∃ dt, Left hb M clock all dt rs
  bel : Below B w w1
theorem new_cr {w w1 : World} {B sb : Nat} {hb : Xt} {C : Array Value} {all : List Ent} {tls : List Fo} {av tv : Value} {M clock d h : Nat} (x : CrR w w1 B sb hb C all tls av tv M clock d h (-1)) (hB : B ≤ w.heap.size) (ht : TabB B w) (hM : M ≤ 400000) (hc : hb.tk ≤ 1000 ∧ clock + hb.tk ≤ 1000000000000) (m f bk n kp bt : Nat) (hcf : cfgB m f bk n kp bt = true) :
    Calls Tryz.prog 16 #[.agg #[.int .i64 (m : Int), .int .i64 (f : Int), .int .i64 (bk : Int), .int .i64 (n : Int), .int .i64 (kp : Int), .int .i64 (bt : Int)], ptrV d] w1 fun e w' => ∃ lb rs, e = .returned (.tuple #[ptrV lb, .int .i64 0]) ∧ OvR w w' B sb lb hb C all tls av tv M clock h m f bk n kp bt rs := by
  obtain ⟨⟨b, fs, dt, rs, fv, x1, x2, x3, x4, x5, x6⟩, mm, bl⟩ := x
  have hB1 : B ≤ w1.heap.size := Nat.le_trans hB bl.size
  obtain ⟨t, ht1, ht2⟩ := x6.ex
  obtain ⟨n1, n2⟩ := x6.nums hM hc
  refine (new_over m f bk n kp bt hcf x1 (x2 rfl) hB1 x4.1 (ht.next bl) (Or.inl rfl) (by omega) x5.jd (by have := x5.len; omega) x5.dat ht1 ht2 x6.ok n1 x6.sz n2).mono ?_
  rintro e w' ⟨lb, rfl, ⟨ρ, G, g1, ⟨g2, g3, g4, g5⟩, g6⟩, hT⟩
  have hS : ∀ k, (k = d ∨ ownD b fv k) → isD w1 k := fun k q => by
    rcases q with q | q
    · rw [q]; exact ⟨_, _, x2 rfl, Or.inl rfl⟩
    · exact St.isD x1 q
  have hpp := hand_keep x1 x3 hT hS
  have hhlt := (Array.getElem?_eq_some_iff.1 x3).1
  refine ⟨lb, rs, rfl, ⟨⟨ρ, G, g1, mm.disk hT hS (fun k hk q => hS k (g6 k hk q)), ⟨g2, g3, g4⟩, by rw [g5]; exact hpp, ?_, x4.2⟩, ⟨dt, x6⟩, below_tch bl hT (fun k q => by rcases q with q | q; rw [q]; exact x4.1; exact St.ownGe x1 q) hB1⟩⟩
  by_cases e : ρ h = 0
  · exact e
  · exact absurd x3 (fun q => isD_ne (hS h (g6 h hhlt e)) q (by decide))
/-- Fields of the shelf are set, where the new log lies. -/
theorem OvR.set {w w1 : World} {B sb lb : Nat} {hb : Xt} {C : Array Value} {all : List Ent} {tls : List Fo} {av tv : Value} {M clock h m f bk n kp bt : Nat} {rs : List Rc} (x : OvR w w1 B sb lb hb C all tls av tv M clock h m f bk n kp bt rs) (hB : B ≤ w.heap.size) (j : Nat) (v : Value) : OvR w (w1.setCell ⟨sb, j, none⟩ v) B sb lb hb (C.setIfInBounds j v) all tls av tv M clock h m f bk n kp bt rs := by
  obtain ⟨⟨ρ, G, x1, x2, x3, x4, x5, x6⟩, hl, bl⟩ := x
  obtain ⟨a1, a2, a3⟩ := ShM.set x1 x2 j v
  refine ⟨⟨ρ, G, a1, a2, x3, ?_, x5, x6⟩, hl, bl.trans (a3 (Nat.le_trans hB bl.size))⟩
  exact (set_other (fun q => absurd (cells_ty (by rw [← q]; exact x4) x2.blk) (by decide))).trans x4
theorem rcL_le : ∀ {rs : List Rc}, (∀ x ∈ rs, x.ok) → (rcL rs).length ≤ 62 * rs.length
  | [], _ => by simp [rcL]
  | r :: rs, h => by
    have h1 := rcL_le (rs := rs) (fun x hx => h x (by simp [hx]))
    have h2 := Rc.size (h r (by simp))
    have h3 := r.l_len
    have e : rcL (r :: rs) = r.l ++ rcL rs := by simp [rcL]
    rw [e, List.length_append, List.length_cons]
    omega
/-- The shelf behind a crash. -/
theorem ov_done {w w1 : World} {ρ : Nat → Nat} {B M lb sb : Nat} {hb : Xt} {G : Gh} {L : Lg} {all : List Ent} {av : Value} {rs : List Rc} (hl : LogAt w1 ρ B 0 lb G L) (hm : ShM w1 ρ B sb hb (shC lb hb L av (.slice none 0 0)) all [] av (.slice none 0 0)) (hi : Inv L all) (hB : B ≤ w.heap.size) (bl : Below B w w1) (hg : G.left = -1 ∧ tb G.dt = rcL rs ∧ G.sf = G.dt.size ∧ G.sb = hb.sb) (ok : ∀ x ∈ rs, x.ok) (len : rs.length ≤ M + 1) (hp : rcP rs = (L.clock, all)) (ht : TlR L [] all.length) :
    ShX w ((w1.setCell ⟨sb, 10, none⟩ (.slice none 0 0)).setCell ⟨sb, 11, none⟩ (.int .i64 0)) B 0 (M + 1) lb sb ⟨hb.h, hb.sb, .slice none 0 0, [], 0⟩ L all [] := by
  have hB1 : B ≤ w1.heap.size := Nat.le_trans hB bl.size
  obtain ⟨a1, a2, a3⟩ := ShM.set hl hm 10 (.slice none 0 0)
  have b1 := a3 hB1
  obtain ⟨c1, c2, c3⟩ := ShM.set a1 a2 11 (.int .i64 0)
  have hC : ((shC lb hb L av (.slice none 0 0)).setIfInBounds 10 (.slice none 0 0)).setIfInBounds 11 (.int .i64 0) = shC lb ⟨hb.h, hb.sb, .slice none 0 0, [], 0⟩ L av (.slice none 0 0) := by simp [shC]
  rw [hC] at c2
  have h1 := rcL_le ok
  have h2 := tb_len G.dt
  rw [hg.2.1] at h2
  have h3 : all.length ≤ rs.length := by
    have := rcP_es (rs := rs)
    rw [hp] at this
    exact this
  refine ⟨⟨ρ, G, av, _, c1, ⟨c2.blk, c2.row, c2.trow, c2.rs, c2.ra, c2.rt, c2.ge, ⟨World.ownsRow_nil _ _ _ _, (fun g hg => by cases hg), c2.x.hp, c2.x.rh, c2.x.gh⟩⟩, hi, ⟨hg.2.2.2, by rw [hg.1]; omega, ⟨rs, ok, by simpa [Xt.pnd] using len, hp, by rw [hg.2.2.1, h2], [], by rw [List.append_nil]; exact hg.2.1, Or.inl rfl⟩, Or.inl rfl, ⟨by simp, by have := hi.clk; simpa using this⟩, fun _ => ⟨rfl, rfl⟩, fun _ => rfl⟩, ⟨by omega, by omega, by simp⟩, ht⟩, bl.trans (b1.trans (c3 (Nat.le_trans hB1 b1.size)))⟩
end Go.Proofs.YtkncboinfcnklabGreatDoor.Kq
