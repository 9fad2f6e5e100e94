import Derived.Test.YtkncboinfcnklabGreatDoorQ30
import Derived.Test.YtkncboinfcnklabGreatDoorQ29
import Derived.Test.YtkncboinfcnklabGreatDoorQ26
import Derived.Test.YtkncboinfcnklabGreatDoorQ27
namespace Go.Proofs.YtkncboinfcnklabGreatDoor.Kq
open Go.RowKit Go.Deep Go.Shelf Go.Proofs.YtkncboinfcnklabGreatDoor.Mth Go.Proofs.YtkncboinfcnklabGreatDoor.Kp

theorem df_none : DF [] ⟨#[]⟩ := ⟨fun f hf => (by cases hf), (by simp), fun r hr => (by
  rcases hr with ⟨e, _⟩ | ⟨i, hi, _⟩
  · rw [if_pos (by omega)]
  · simp at hi), fun f hf => (by cases hf), fun f hf => (by cases hf)⟩
theorem over_nil (m f bk n kp bt : Nat) : Lg.over m f bk n kp bt [] = Lg.new m f bk n kp bt := rfl
set_option maxRecDepth 100000 in
set_option maxHeartbeats 4000000 in
theorem opened_any (w : World) (B : Nat) (hB : B ≤ w.heap.size) (ht : TabB B w) (c0 c1 c2 c3 c4 c5 : Int) (m f bk n kp bt : Nat) (h0 : I64 c0) (h1 : I64 c1) (h2 : I64 c2) (h3 : I64 c3) (h4 : I64 c4) (h5 : I64 c5)
    (e0 : 1 + pkI c0 8 = (m : Int)) (e1 : 2 + pkI c1 3 = (f : Int)) (e2 : pkI c2 5 = (bk : Int)) (e3 : 1 + pkI c3 4 = (n : Int)) (e4 : 1 + pkI c4 1000000 = (kp : Int)) (e5 : 1 + pkI c5 8 = (bt : Int)) :
    Calls Tryz.prog 9 #[caV c0 c1 c2 c3 c4 c5] w fun e w' => ∃ sb lb hb, e = .returned (ptrV sb) ∧ ShX w w' B 0 0 lb sb hb (Lg.new m f bk n kp bt) [] [] := by
  have hcf : cfgB m f bk n kp bt = true := by
    have b0 := pkI_bd c0 8 (by omega)
    have b1 := pkI_bd c1 3 (by omega)
    have b2 := pkI_bd c2 5 (by omega)
    have b3 := pkI_bd c3 4 (by omega)
    have b4 := pkI_bd c4 1000000 (by omega)
    have b5 := pkI_bd c5 8 (by omega)
    unfold cfgB
    simp only [Bool.and_eq_true, decide_eq_true_eq]
    omega
  have hb1 := below_allocG w (caO c0 c1 c2 c3 c4 c5)
  have hk1 := new_blk w #[.int .i64 c0, .int .i64 c1, .int .i64 c2, .int .i64 c3, .int .i64 c4, .int .i64 c5] 23
  obtain ⟨w1, hw1⟩ : ∃ w1, w1 = w.alloc (caO c0 c1 c2 c3 c4 c5) := ⟨_, rfl⟩
  rw [← hw1] at hb1 hk1
  obtain ⟨nb, hnb⟩ : ∃ nb, nb = w.heap.size := ⟨_, rfl⟩
  rw [← hnb] at hk1
  have hnlt : nb < w1.heap.size := (Array.getElem?_eq_some_iff.1 hk1).1
  have CD := hide (apiNew_any w1 B (Nat.le_trans hB hb1.size))
  have CC : Hid (∀ W, Calls Tryz.prog 23 #[caV c0 c1 c2 c3 c4 c5] W fun e w' => e = .returned (.agg #[.int .i64 (m : Int), .int .i64 (f : Int), .int .i64 (bk : Int), .int .i64 (n : Int), .int .i64 (kp : Int), .int .i64 (bt : Int)]) ∧ Below W.heap.size W w') := fun W => by
    have := config_any c0 c1 c2 c3 c4 c5 W h0 h1 h2 h3 h4 h5
    rwa [e0, e1, e2, e3, e4, e5] at this
  have HW1 := hide hw1
  have HB1 := hide hb1
  have HK1 := hide hk1
  have HT := hide ht
  have HNB := hide hnb
  have HCF := hide hcf
  clear hb1 hk1 hw1 ht hcf e0 e1 e2 e3 e4 e5 h0 h1 h2 h3 h4 h5
  go_enter Tryz.func9, Tryz.ntmps9
  go_upto_region 1 with fail
  rw [← HW1.out, ← HNB.out]
  clear hnb
  go_upto_region 2 with (first
    | (go_at_call 22; refine CD.out.mono ?_; rintro e w2 ⟨d, hb, b, rfl, hbn, hdn, hhn, hb2, hst, hpd, hph⟩; have HB2 := hide hb2; have HST := hide hst; have HPD := hide hpd; have HPH := hide hph; clear hb2 hst hpd hph))
  have hk2 := (HB2.out.block nb hnlt).trans HK1.out
  obtain ⟨a0, _⟩ := cell_of (j := 0) (u := .int .i64 c0) hk2 rfl
  obtain ⟨a1, _⟩ := cell_of (j := 1) (u := .int .i64 c1) hk2 rfl
  obtain ⟨a2, _⟩ := cell_of (j := 2) (u := .int .i64 c2) hk2 rfl
  obtain ⟨a3, _⟩ := cell_of (j := 3) (u := .int .i64 c3) hk2 rfl
  obtain ⟨a4, _⟩ := cell_of (j := 4) (u := .int .i64 c4) hk2 rfl
  obtain ⟨a5, _⟩ := cell_of (j := 5) (u := .int .i64 c5) hk2 rfl
  clear hk2
  go_upto_region 3 with (first
    | (go_at_call 23; refine (CC.out _).mono ?_; rintro e w3 ⟨rfl, hb3⟩; have HB3 := hide hb3; clear hb3))
  have hb4 := below_allocG w3 (Obj.cells #[.int .i64 (m : Int), .int .i64 (f : Int), .int .i64 (bk : Int), .int .i64 (n : Int), .int .i64 (kp : Int), .int .i64 (bt : Int)] 32)
  have hk4 := new_blk w3 #[.int .i64 (m : Int), .int .i64 (f : Int), .int .i64 (bk : Int), .int .i64 (n : Int), .int .i64 (kp : Int), .int .i64 (bt : Int)] 32
  obtain ⟨w4, hw4⟩ : ∃ w4, w4 = w3.alloc (Obj.cells #[.int .i64 (m : Int), .int .i64 (f : Int), .int .i64 (bk : Int), .int .i64 (n : Int), .int .i64 (kp : Int), .int .i64 (bt : Int)] 32) := ⟨_, rfl⟩
  rw [← hw4] at hb4 hk4 ⊢
  obtain ⟨kb, hkb⟩ : ∃ kb, kb = w3.heap.size := ⟨_, rfl⟩
  rw [← hkb] at hk4 ⊢
  have h24 : Below w2.heap.size w2 w4 := HB3.out.trans (hb4.mono HB3.out.size)
  have h04 : Below w.heap.size w w4 := HB1.out.trans ((HB2.out.trans (h24.mono HB2.out.size)).mono HB1.out.size)
  have hbkb : b < kb := by rw [hkb]; exact Nat.lt_of_lt_of_le HST.out.lt HB3.out.size
  have hklt : kb < w4.heap.size := (Array.getElem?_eq_some_iff.1 hk4).1
  have hB4 : B ≤ w4.heap.size := Nat.le_trans hB h04.size
  have hB04 : Below B w w4 := belowB h04 hB
  have CN := hide (new_over m f bk n kp bt HCF.out (HST.out.below h24) (HPD.out.below h24) hB4 (Nat.le_trans (Nat.le_trans hB HB1.out.size) hdn) (HT.out.next hB04) (Or.inl rfl) (by omega) df_none.jd (by simp) df_none.dat (rs := []) (t := []) rfl torn_nil (fun x hx => by cases hx) (by simp) (by decide) (by decide))
  rw [over_nil] at CN
  have hS : ∀ k, (k = d ∨ ownD b (.slice none 0 0) k) → isD w4 k := fun k q => by
    rcases q with q | q
    · rw [q]; exact ⟨_, _, HPD.out.below h24, Or.inl rfl⟩
    · exact St.isD (HST.out.below h24) q
  have HKB : Hid (∀ w5, Tch (fun k => k = d ∨ ownD b (.slice none 0 0) k) w4 w5 → w5.heap[kb]? = some (Obj.cells #[.int .i64 (m : Int), .int .i64 (f : Int), .int .i64 (bk : Int), .int .i64 (n : Int), .int .i64 (kp : Int), .int .i64 (bt : Int)] 32)) := fun w5 h => (h.block kb hklt (fun q => isD_ne (hS kb q) hk4 (by decide))).trans hk4
  have FIN : Hid (∀ w5 lb, NewO w4 w5 B d b (.slice none 0 0) lb (Lg.new m f bk n kp bt) [] (-1) → ShX w (w5.alloc (Obj.cells #[ptrV lb, ptrV hb, .int .i64 (m : Int), .int .i64 (f : Int), .int .i64 (bk : Int), .int .i64 (n : Int), .int .i64 (kp : Int), .int .i64 (bt : Int), .slice none 0 0, .int .i64 0, .slice none 0 0, .int .i64 0, .slice none 0 0, .bool true] 37)) B 0 0 lb w5.heap.size ⟨hb, b, .slice none 0 0, [], 0⟩ (Lg.new m f bk n kp bt) [] []) := by
    intro w5 lb hn5
    obtain ⟨⟨ρ, G, hl, ⟨hlf, hdt, hsf, hsb⟩, hold⟩, ht5⟩ := hn5
    have hB5 : B ≤ w5.heap.size := Nat.le_trans hB4 ht5.size
    have hb6 := below_allocG w5 (Obj.cells #[ptrV lb, ptrV hb, .int .i64 (m : Int), .int .i64 (f : Int), .int .i64 (bk : Int), .int .i64 (n : Int), .int .i64 (kp : Int), .int .i64 (bt : Int), .slice none 0 0, .int .i64 0, .slice none 0 0, .int .i64 0, .slice none 0 0, .bool true] 37)
    have hk6 := new_blk w5 #[ptrV lb, ptrV hb, .int .i64 (m : Int), .int .i64 (f : Int), .int .i64 (bk : Int), .int .i64 (n : Int), .int .i64 (kp : Int), .int .i64 (bt : Int), .slice none 0 0, .int .i64 0, .slice none 0 0, .int .i64 0, .slice none 0 0, .bool true] 37
    have hB45 : Below B w4 w5 := below_tch (Below.refl B w4) ht5 (fun k e => by
      rcases e with e | e
      · rw [e]; exact Nat.le_trans (Nat.le_trans hB HB1.out.size) hdn
      · exact St.ownGe (HST.out.below h24) e) hB4
    have hph4 : Ptr 85 w4 hb b := HPH.out.below h24
    have hph5 : Ptr 85 w5 hb b := hand_keep (HST.out.below h24) hph4 ht5 hS
    have hrh : ρ hb = 0 := by
      by_cases e : ρ hb = 0
      · exact e
      · exact absurd hph4 (fun q => isD_ne (hS hb (hold hb (Array.getElem?_eq_some_iff.1 hph4).1 e)) q (by decide))
    have hdz : G.dt.size = 0 := by
      have := tb_len G.dt
      rw [hdt] at this
      simpa [rcL] using this.symm
    refine ⟨⟨ρ, G, .slice none 0 0, .slice none 0 0, hl.below hb6, ⟨?_, World.ownsRow_nil _ _ _ _, World.ownsRow_nil _ _ _ _, hl.free (Nat.le_refl _), (fun g hg => by cases hg), (fun g hg => by cases hg), hB5, ⟨World.ownsRow_nil _ _ _ _, (fun g hg => by cases hg), hph5.below hb6, hrh, Nat.le_trans (Nat.le_trans hB HB1.out.size) hhn⟩⟩, Inv.new HCF.out, ⟨hsb, by rw [hlf]; omega, ⟨[], (fun x hx => by cases hx), by simp [Xt.pnd], rfl, by rw [hsf, hdz]; rfl, [], by rw [hdt]; rfl, Or.inl rfl⟩, Or.inl rfl, ⟨by simp, by simp [Lg.new]⟩, fun _ => ⟨rfl, rfl⟩, fun _ => rfl⟩, ⟨by rw [hdz]; simp, by simp, by simp⟩, ⟨fun i hi => absurd hi (by simp), fun i hi => absurd hi (by simp), fun x _ => rfl, rfl, by simp [Lg.new]⟩⟩, hB04.trans (hB45.trans (belowB hb6 hB5))⟩
    rw [hk6]
    simp [shC, Lg.new]
  obtain ⟨q0, _⟩ := cell_of (j := 0) (u := .int .i64 (m : Int)) hk4 rfl
  obtain ⟨q1, _⟩ := cell_of (j := 1) (u := .int .i64 (f : Int)) hk4 rfl
  obtain ⟨q2, _⟩ := cell_of (j := 2) (u := .int .i64 (bk : Int)) hk4 rfl
  obtain ⟨q3, _⟩ := cell_of (j := 3) (u := .int .i64 (n : Int)) hk4 rfl
  obtain ⟨q4, _⟩ := cell_of (j := 4) (u := .int .i64 (kp : Int)) hk4 rfl
  obtain ⟨q5, _⟩ := cell_of (j := 5) (u := .int .i64 (bt : Int)) hk4 rfl
  clear a0 a1 a2 a3 a4 a5 hb4 hk4 hw4 hkb h24 h04
  go_upto_region 4 with (first
    | (go_at_call 16; refine CN.out.mono ?_; rintro e w5 ⟨lb, rfl, hn5⟩; have HF := hide (FIN.out w5 lb hn5); have hk5 := HKB.out w5 hn5.tch; clear hn5))
  clear q0 q1 q2 q3 q4 q5
  obtain ⟨q0, _⟩ := cell_of (j := 0) (u := .int .i64 (m : Int)) hk5 rfl
  obtain ⟨q1, _⟩ := cell_of (j := 1) (u := .int .i64 (f : Int)) hk5 rfl
  obtain ⟨q2, _⟩ := cell_of (j := 2) (u := .int .i64 (bk : Int)) hk5 rfl
  obtain ⟨q3, _⟩ := cell_of (j := 3) (u := .int .i64 (n : Int)) hk5 rfl
  obtain ⟨q4, _⟩ := cell_of (j := 4) (u := .int .i64 (kp : Int)) hk5 rfl
  obtain ⟨q5, _⟩ := cell_of (j := 5) (u := .int .i64 (bt : Int)) hk5 rfl
  clear hk5
  go_wp2_with fail
  go_ret
  exact ⟨_, _, _, rfl, HF.out⟩
end Go.Proofs.YtkncboinfcnklabGreatDoor.Kq

namespace Go.Proofs.YtkncboinfcnklabGreatDoor.Kq
open Go.RowKit Go.Deep Go.Shelf Go.Proofs.YtkncboinfcnklabGreatDoor.Mth Go.Proofs.YtkncboinfcnklabGreatDoor.Kp

set_option maxRecDepth 100000 in
set_option maxHeartbeats 1000000 in
theorem passes_no {w : World} {ρ : Nat → Nat} {B N M lb sb : Nat} {hb : Xt} {G : Gh} {L : Lg} {all : List Ent} {tls : List Fo} {av tv : Value} (h : Sh w ρ B N M lb sb hb G L all tls av tv) (hB : B ≤ w.heap.size) (n : Nat) (h1 : 1 ≤ n) (h2 : n ≤ 1000) (hc : canTick L.clock (n : Int) = false) :
    Calls Tryz.prog 21 #[ptrV sb, .int .i64 (n : Int)] w fun e w' => e = .returned (.tuple #[]) ∧ ShX w w' B N M lb sb hb L all tls := by
  have hclk := h.inv.clk
  have CT := hide (tick_no h.log (n : Int) hclk hc)
  have HF := hide (h.fine hB)
  obtain ⟨c0, _⟩ := h.cell (j := 0) (u := ptrV lb) rfl
  obtain ⟨c9, _⟩ := h.cell (j := 9) (u := .int .i64 (L.clock : Int)) rfl
  obtain ⟨c13, f13⟩ := h.cell (j := 13) (u := .bool true) rfl
  have hgt : (1000000000000 : Int) - (n : Int) < (L.clock : Int) := by
    unfold canTick at hc
    simp at hc
    omega
  clear h hc
  go_enter Tryz.func21, Tryz.ntmps21
  go_wp2_with (first | (go_at_call 43; refine CT.out.mono ?_; rintro e w' ⟨rfl, hw'⟩; rw [hw']; clear hw' w'))
  go_end0
  exact ⟨rfl, HF.out⟩

set_option maxRecDepth 100000 in
set_option maxHeartbeats 1000000 in
theorem passes_ok {w : World} {ρ : Nat → Nat} {B N M lb sb : Nat} {hb : Xt} {G : Gh} {L : Lg} {all : List Ent} {tls : List Fo} {av tv : Value} (h : Sh w ρ B N M lb sb hb G L all tls av tv) (hB : B ≤ w.heap.size) (q0 : G.left ≠ 0) (q1 : G.left ≠ 1) (ht : Tab10B B w) (n : Nat) (h1 : 1 ≤ n) (h2 : n ≤ 1000) (hc : canTick L.clock (n : Int) = true) (hM : M ≤ 400000) :
    Calls Tryz.prog 21 #[ptrV sb, .int .i64 (n : Int)] w fun e w' => e = .returned (.tuple #[]) ∧ ShX w w' B N (M + 1) lb sb hb { L with clock := L.clock + n } all tls := by
  have hclk := h.inv.clk
  have hbd := h.bud
  have hsum : L.clock + n ≤ 1000000000000 := by
    unfold canTick at hc
    simp at hc
    omega
  have CT := hide (tick_ok h.log hB ht.now q0 q1 h.dk.left.1 (by have := h.dk.left.2; omega) n hclk hc (by omega))
  have hit := itoaB_size (n : Int) (by omega) (by omega)
  have HS2 : Hid (∀ w2, Apd w w2 ρ B N lb G { L with clock := L.clock + n } (G.dt ++ recB 1 (itoaB n)) (decL (decL G.left)) → w2.cell? ⟨sb, 9, none⟩ = some (.int .i64 (L.clock : Int)) ∧ w2.frozen? ⟨sb, 9, none⟩ = false ∧ ShX w (w2.setCell ⟨sb, 9, none⟩ (.int .i64 ((L.clock : Int) + (n : Int)))) B N (M + 1) lb sb hb { L with clock := L.clock + n } all tls) := by
    intro w2 ha
    obtain ⟨⟨ρ2, G2, a1, a2, a3, a4, a5⟩⟩ := ha
    have hm2 := h.mem.keep a2
    have hB2 := below_lstp (Below.refl B w) a2 h.log.x.lt hB
    obtain ⟨b1, b2, b3⟩ := ShM.set a1 hm2 9 (.int .i64 ((L.clock + n : Nat) : Int))
    rw [shC_clock] at b2
    rw [Int.natCast_add] at b1 b2 b3
    refine ⟨(cell_of (j := 9) hm2.blk rfl).1, (cell_of (j := 9) (u := .int .i64 (L.clock : Int)) hm2.blk rfl).2, ⟨ρ2, G2, av, tv, b1, b2, h.inv.tick hsum, ?_, ⟨?_, by omega, by omega⟩, h.tl.mono (Nat.le_refl _) rfl rfl rfl⟩, hB2.trans (b3 (Nat.le_trans hB hB2.size))⟩
    · exact h.dk.put q0 (.tick n) (by show n ≤ 1000000; omega) a3.1.sb a5 a4 a3.2 hsum
    · rw [a4, ByteArray.size_append, recB_size]; omega
  obtain ⟨c0, _⟩ := h.cell (j := 0) (u := ptrV lb) rfl
  clear h hc ht q0 q1
  generalize hLL : ({ L with clock := L.clock + n } : Lg) = L1 at *
  clear hLL
  go_enter Tryz.func21, Tryz.ntmps21
  go_wp2_with (first | (go_at_call 43; refine CT.out.mono ?_; rintro e w2 ⟨rfl, ha⟩; obtain ⟨d9, f9, hx⟩ := HS2.out w2 ha; have HX := hide hx; clear ha hx))
  go_end0
  exact ⟨rfl, HX.out⟩
end Go.Proofs.YtkncboinfcnklabGreatDoor.Kq

namespace Go.Proofs.YtkncboinfcnklabGreatDoor.Kq
open Go.RowKit Go.Deep Go.Shelf Go.Proofs.YtkncboinfcnklabGreatDoor.Mth Go.Proofs.YtkncboinfcnklabGreatDoor.Kp

theorem shC_text (lb : Nat) (hb : Xt) (L : Lg) (av tv v : Value) (l : List ByteArray) : (shC lb hb L av tv).setIfInBounds 10 v = shC lb { hb with tv := v, tx := l } L av tv := by simp [shC]
theorem shC_ticks (lb : Nat) (hb : Xt) (L : Lg) (av tv : Value) (n : Nat) : (shC lb hb L av tv).setIfInBounds 11 (.int .i64 (n : Int)) = shC lb { hb with tk := n } L av tv := by simp [shC]
/-- What a call leaves of the log that could not make a record safe. -/
structure DnR (w w2 : World) (ρ : Nat → Nat) (B N lb M : Nat) (hb : Xt) (L : Lg) (all : List Ent) (r : Rc) (clock : Nat) : Prop where
  ex : ∃ ρ2 G2, LogAt w2 ρ2 B N lb G2 L ∧ LStp w w2 ρ ρ2 ∧ G2.dt.size ≤ 64 * (M + 1) ∧ ∀ X' : Xt, X'.sb = hb.sb → ((∃ s, r = .lay s ∧ X'.tx = [s] ∧ X'.tk = 0) ∨ (∃ n, r = .tick n ∧ X'.tx = [] ∧ X'.tv = .slice none 0 0 ∧ X'.tk = n ∧ 0 < n ∧ n ≤ 1000 ∧ clock + n ≤ 1000000000000)) → Dk X' G2 (M + 1) clock all
theorem DnR.of0 {w w2 : World} {ρ : Nat → Nat} {B N M lb sb : Nat} {hb : Xt} {G : Gh} {L : Lg} {all : List Ent} {tls : List Fo} {av tv : Value} (h : Sh w ρ B N M lb sb hb G L all tls av tv) (h0 : hb.tx = [] ∧ hb.tk = 0) (q : G.left = 0) (r : Rc) (hr : r.ok) (hb' : Below w.heap.size w w2) : DnR w w2 ρ B N lb M hb L all r L.clock :=
  ⟨ρ, G, h.log.below hb', ⟨tch_below hb', fun _ _ q => q⟩, by have := h.bud; omega, fun _X' hx hX => h.dk.down h0 r hr rfl q (Or.inl ⟨rfl, q⟩) rfl hx hX⟩
theorem DnR.of1 {w w2 : World} {ρ : Nat → Nat} {B N M lb sb : Nat} {hb : Xt} {G : Gh} {L : Lg} {all : List Ent} {tls : List Fo} {av tv : Value} (h : Sh w ρ B N M lb sb hb G L all tls av tv) (q : G.left = 1) (r : Rc) (hr : r.ok) (ha : ApdN w w2 ρ B N lb G L (G.dt ++ recB r.k r.s)) : DnR w w2 ρ B N lb M hb L all r L.clock := by
  obtain ⟨⟨ρ2, G2, a1, a2, a3, a4, a5, a6⟩⟩ := ha
  have h0 := h.dk.idle (by omega)
  have hbd := h.bud
  have hrs := Rc.size hr
  exact ⟨ρ2, G2, a1, a2, by rw [a4, ByteArray.size_append, recB_size]; omega, fun X' hx hX => h.dk.down h0 r hr a3.sb a5 (Or.inr ⟨a4, q⟩) a6 hx hX⟩

set_option maxRecDepth 100000 in
set_option maxHeartbeats 2000000 in
theorem lays_dn {w : World} {ρ : Nat → Nat} {B N M lb sb : Nat} {hb : Xt} {G : Gh} {L : Lg} {all : List Ent} {tls : List Fo} {av tv : Value} (h : Sh w ρ B N M lb sb hb G L all tls av tv) (hB : B ≤ w.heap.size) (s : ByteArray) (hs : s.size ≤ 60) (h0 : hb.tx = [] ∧ hb.tk = 0) (hA : Calls Tryz.prog 40 #[ptrV lb, .string s] w fun e w' => e = .returned (.tuple #[.int .i64 0, .int .i64 3]) ∧ DnR w w' ρ B N lb M hb L all (.lay s) L.clock) :
    Calls Tryz.prog 19 #[ptrV sb, .string s] w fun e w' => e = .returned (.tuple #[]) ∧ ∃ hb', ShX w w' B N (M + 1) lb sb hb' L all tls := by
  obtain ⟨i0, hi0, hz0, hz1, hz2⟩ := info_parts Tryz.info9
  have htv := h.dk.nil h0.1
  have hbd := h.bud
  have HS2 : Hid (∀ w2, DnR w w2 ρ B N lb M hb L all (.lay s) L.clock → w2.cell? ⟨sb, 10, none⟩ = some (.slice none 0 0) ∧ w2.frozen? ⟨sb, 10, none⟩ = false ∧ w2.cell? ⟨sb, 11, none⟩ = some (.int .i64 0) ∧ B ≤ w2.heap.size ∧ ∀ v5 W5, W5.ownsRow w2.heap.size 9 1 v5 1 [.string s] → (w2.alloc (Obj.cells #[.string s] 9)).grownBy W5 none → W5.cell? ⟨sb, 10, none⟩ = some (.slice none 0 0) ∧ W5.frozen? ⟨sb, 10, none⟩ = false ∧ ∃ hb', ShX w (W5.setCell ⟨sb, 10, none⟩ v5) B N (M + 1) lb sb hb' L all tls) := by
    intro w2 ha
    obtain ⟨⟨ρ2, G2, a1, a2, a3, a4⟩⟩ := ha
    have hm2 := h.mem.keep a2
    have hB2 := below_lstp (Below.refl B w) a2 h.log.x.lt hB
    have hBw2 : B ≤ w2.heap.size := Nat.le_trans hB hB2.size
    refine ⟨(cell_of (j := 10) (u := .slice none 0 0) hm2.blk (by rw [← htv]; rfl)).1, (cell_of (j := 10) (u := .slice none 0 0) hm2.blk (by rw [← htv]; rfl)).2, (cell_of (j := 11) (u := .int .i64 0) hm2.blk (by show some (Value.int .i64 (hb.tk : Int)) = _; rw [h0.2]; rfl)).1, hBw2, fun v5 W5 o5 g5 => ?_⟩
    have hsz5 : w2.heap.size ≤ W5.heap.size := by have := g5.size; simp at this; omega
    have hb5 : Below w2.heap.size w2 W5 := ⟨g5.os, g5.tape, g5.output, hsz5, fun k hk => by rw [g5.block k (by simp; omega) (by simp), Mth.hAO w2 _ (r := k) hk]⟩
    have hm5 := hm2.below hb5
    have hl5 := a1.below hb5
    have hne : some sb ≠ v5.ownBlock := fun q => by
      have h1 := (own_block o5 q).1
      have h2 := (Array.getElem?_eq_some_iff.1 hm2.blk).1
      omega
    refine ⟨(cell_of (j := 10) (u := .slice none 0 0) hm5.blk (by rw [← htv]; rfl)).1, (cell_of (j := 10) (u := .slice none 0 0) hm5.blk (by rw [← htv]; rfl)).2, { hb with tv := v5, tx := [s] }, ?_⟩
    obtain ⟨b1, b2, b3⟩ := ShM.set hl5 hm5 10 v5
    have hB5 : Below B w W5 := hB2.trans (belowB hb5 hBw2)
    refine ⟨⟨ρ2, G2, av, tv, b1, ?_, h.inv, a4 _ rfl (Or.inl ⟨s, rfl, rfl, h0.2⟩), ⟨a3, by omega, by omega⟩, h.tl⟩, hB5.trans (b3 (Nat.le_trans hBw2 hsz5))⟩
    rw [shC_text lb hb L av tv v5 [s]] at b2
    refine ⟨b2.blk, b2.row, b2.trow, b2.rs, b2.ra, b2.rt, b2.ge, own_base (own_set_other o5 hm5.blk (by decide)) hBw2, fun g hg => ?_, b2.x.hp, b2.x.rh, b2.x.gh⟩
    exact a1.free (own_block o5 hg).1
  have CA := hide hA
  obtain ⟨c0, _⟩ := h.cell (j := 0) (u := ptrV lb) rfl
  have h60 : (s.size : Int) ≤ 60 := by omega
  clear h hA htv
  go_enter Tryz.func19, Tryz.ntmps19
  go_upto_region 8 with (first | (go_at_call 40; refine CA.out.mono ?_; rintro e w2 ⟨rfl, ha⟩; obtain ⟨c10, f10, c11, hBw2, hfin⟩ := HS2.out w2 ha; have HFIN := hide hfin; clear ha hfin))
  have c10' := cellA (o := Obj.cells #[.string s] 9) c10
  go_wp2_with (first | (at_builtin; refine wpList_append_own _ rfl _ _ 34 rfl w2.heap.size 9 i0 (.string ByteArray.empty) 1 16 Tryz.underlying34 hi0 hz0 hz1 hz2 rfl (by decide) _ _ _ rfl (World.ownsRow_nil _ _ _ _) ⟨w2.heap.size, 0, none⟩ 1 1 [.string s] rfl rfl (cells_new _ _ _ _ rfl) (by intro u hu; simp at hu; subst hu; rfl) (by unfold maxLen; omega) (by omega) (by simp) ?_; intro v5 W5 o5 g5 _; obtain ⟨a5, c5, rfl, _, _⟩ := own_slice o5; obtain ⟨d10, e10, hx⟩ := HFIN.out _ W5 o5 g5; have HX := hide hx; clear o5 g5 hx))
  go_end0
  exact ⟨rfl, HX.out⟩

set_option maxRecDepth 100000 in
set_option maxHeartbeats 2000000 in
/-- The disk is stopped, and nothing more is written down. -/
theorem lays_skip {w : World} {ρ : Nat → Nat} {B N M lb sb : Nat} {hb : Xt} {G : Gh} {L : Lg} {all : List Ent} {tls : List Fo} {av tv : Value} (h : Sh w ρ B N M lb sb hb G L all tls av tv) (hB : B ≤ w.heap.size) (s : ByteArray) (hs2 : s.size ≤ 1048576) (q : G.left = 0) (hno : ¬ (s.size ≤ 60 ∧ hb.tx = [] ∧ hb.tk = 0)) :
    Calls Tryz.prog 19 #[ptrV sb, .string s] w fun e w' => e = .returned (.tuple #[]) ∧ ShX w w' B N M lb sb hb L all tls := by
  have CA := hide (append_down h.log s q)
  have HX := hide (h.shx hB (Below.refl _ w))
  obtain ⟨c0, _⟩ := h.cell (j := 0) (u := ptrV lb) rfl
  obtain ⟨va, vc, hv, _, hvm⟩ := own_slice h.mem.x.row
  have hx1 : hb.tx.length ≤ 1 := by
    rcases h.dk.tx with q | ⟨s, q, _⟩ <;> rw [q] <;> simp
  have hk1 := h.dk.tk.1
  obtain ⟨c10, _⟩ := h.cell (j := 10) (u := .slice va hb.tx.length vc) (by rw [← hv]; rfl)
  obtain ⟨c11, _⟩ := h.cell (j := 11) (u := .int .i64 (hb.tk : Int)) rfl
  have hno2 : ¬ (s.size ≤ 60 ∧ hb.tx.length = 0 ∧ hb.tk = 0) := fun q => hno ⟨q.1, List.length_eq_zero_iff.1 q.2.1, q.2.2⟩
  clear h hno hv
  generalize hb.tx.length = nx at *
  generalize hb.tk = tk at *
  by_cases h1 : (s.size : Int) ≤ 60
  · by_cases h2 : (nx : Int) = 0
    · have h3 : ¬ (tk : Int) = 0 := fun q => hno2 ⟨by omega, by omega, by omega⟩
      go_enter Tryz.func19, Tryz.ntmps19
      go_wp2_with (first | (go_at_call 40; refine CA.out.mono ?_; rintro e w' ⟨rfl, hw'⟩; rw [hw']; clear hw' w'))
      go_end0
      exact ⟨rfl, HX.out⟩
    · go_enter Tryz.func19, Tryz.ntmps19
      go_wp2_with (first | (go_at_call 40; refine CA.out.mono ?_; rintro e w' ⟨rfl, hw'⟩; rw [hw']; clear hw' w'))
      go_end0
      exact ⟨rfl, HX.out⟩
  · go_enter Tryz.func19, Tryz.ntmps19
    go_wp2_with (first | (go_at_call 40; refine CA.out.mono ?_; rintro e w' ⟨rfl, hw'⟩; rw [hw']; clear hw' w'))
    go_end0
    exact ⟨rfl, HX.out⟩

set_option maxRecDepth 100000 in
set_option maxHeartbeats 2000000 in
theorem passes_dn {w : World} {ρ : Nat → Nat} {B N M lb sb : Nat} {hb : Xt} {G : Gh} {L : Lg} {all : List Ent} {tls : List Fo} {av tv : Value} (h : Sh w ρ B N M lb sb hb G L all tls av tv) (hB : B ≤ w.heap.size) (n : Nat) (h1 : 1 ≤ n) (h2 : n ≤ 1000) (hc : L.clock + n ≤ 1000000000000) (h0 : hb.tx = [] ∧ hb.tk = 0) (hA : Calls Tryz.prog 43 #[ptrV lb, .int .i64 (n : Int)] w fun e w' => e = .returned (.int .i64 3) ∧ DnR w w' ρ B N lb M hb L all (.tick n) L.clock) :
    Calls Tryz.prog 21 #[ptrV sb, .int .i64 (n : Int)] w fun e w' => e = .returned (.tuple #[]) ∧ ∃ hb', ShX w w' B N (M + 1) lb sb hb' L all tls := by
  have htv := h.dk.nil h0.1
  have hbd := h.bud
  have HS2 : Hid (∀ w2, DnR w w2 ρ B N lb M hb L all (.tick n) L.clock → w2.cell? ⟨sb, 10, none⟩ = some (.slice none 0 0) ∧ w2.cell? ⟨sb, 11, none⟩ = some (.int .i64 0) ∧ w2.frozen? ⟨sb, 11, none⟩ = false ∧ ∃ hb', ShX w (w2.setCell ⟨sb, 11, none⟩ (.int .i64 (n : Int))) B N (M + 1) lb sb hb' L all tls) := by
    intro w2 ha
    obtain ⟨⟨ρ2, G2, a1, a2, a3, a4⟩⟩ := ha
    have hm2 := h.mem.keep a2
    have hB2 := below_lstp (Below.refl B w) a2 h.log.x.lt hB
    have hBw2 : B ≤ w2.heap.size := Nat.le_trans hB hB2.size
    have e11 : (shC lb hb L av tv)[11]? = some (.int .i64 0) := by show some (Value.int .i64 (hb.tk : Int)) = _; rw [h0.2]; rfl
    refine ⟨(cell_of (j := 10) (u := .slice none 0 0) hm2.blk (by rw [← htv]; rfl)).1, (cell_of (j := 11) hm2.blk e11).1, (cell_of (j := 11) hm2.blk e11).2, { hb with tk := n }, ?_⟩
    obtain ⟨b1, b2, b3⟩ := ShM.set a1 hm2 11 (.int .i64 (n : Int))
    rw [shC_ticks] at b2
    exact ⟨⟨ρ2, G2, av, tv, b1, ⟨b2.blk, b2.row, b2.trow, b2.rs, b2.ra, b2.rt, b2.ge, ⟨b2.x.row, b2.x.rx, b2.x.hp, b2.x.rh, b2.x.gh⟩⟩, h.inv, a4 _ rfl (Or.inr ⟨n, rfl, h0.1, htv, rfl, by omega, h2, hc⟩), ⟨a3, by omega, by omega⟩, h.tl⟩, hB2.trans (b3 hBw2)⟩
  have CA := hide hA
  obtain ⟨c0, _⟩ := h.cell (j := 0) (u := ptrV lb) rfl
  clear h hA htv hc
  go_enter Tryz.func21, Tryz.ntmps21
  go_wp2_with (first | (go_at_call 43; refine CA.out.mono ?_; rintro e w2 ⟨rfl, ha⟩; obtain ⟨c10, c11, f11, hx⟩ := HS2.out w2 ha; have HX := hide hx; clear ha hx))
  go_end0
  exact ⟨rfl, HX.out⟩

set_option maxRecDepth 100000 in
set_option maxHeartbeats 2000000 in
theorem passes_skip {w : World} {ρ : Nat → Nat} {B N M lb sb : Nat} {hb : Xt} {G : Gh} {L : Lg} {all : List Ent} {tls : List Fo} {av tv : Value} (h : Sh w ρ B N M lb sb hb G L all tls av tv) (hB : B ≤ w.heap.size) (ht : Tab10B B w) (n : Nat) (hc : canTick L.clock (n : Int) = true) (q : G.left = 0) (hno : ¬ (hb.tx = [] ∧ hb.tk = 0)) :
    Calls Tryz.prog 21 #[ptrV sb, .int .i64 (n : Int)] w fun e w' => e = .returned (.tuple #[]) ∧ ShX w w' B N M lb sb hb L all tls := by
  have CA := hide (tick_down0 h.log ht.now n h.inv.clk hc q)
  obtain ⟨c0, _⟩ := h.cell (j := 0) (u := ptrV lb) rfl
  obtain ⟨va, vc, hv, _, hvm⟩ := own_slice h.mem.x.row
  have hx1 : hb.tx.length ≤ 1 := by
    rcases h.dk.tx with q | ⟨s, q, _⟩ <;> rw [q] <;> simp
  have hk1 := h.dk.tk.1
  have HX : Hid (∀ W, Below w.heap.size w W → W.cell? ⟨sb, 10, none⟩ = some (.slice va hb.tx.length vc) ∧ W.cell? ⟨sb, 11, none⟩ = some (.int .i64 (hb.tk : Int)) ∧ ShX w W B N M lb sb hb L all tls) := fun W hW => ⟨((h.below hW).cell (j := 10) (u := .slice va hb.tx.length vc) (by rw [← hv]; rfl)).1, ((h.below hW).cell (j := 11) (u := .int .i64 (hb.tk : Int)) rfl).1, h.shx hB hW⟩
  have hno2 : ¬ (hb.tx.length = 0 ∧ hb.tk = 0) := fun q => hno ⟨List.length_eq_zero_iff.1 q.1, q.2⟩
  clear h hno hv hc ht
  generalize hb.tx.length = nx at *
  generalize hb.tk = tk at *
  by_cases h2 : (nx : Int) = 0
  · have h3 : ¬ (tk : Int) = 0 := fun q => hno2 ⟨by omega, by omega⟩
    go_enter Tryz.func21, Tryz.ntmps21
    go_wp2_with (first | (go_at_call 43; refine CA.out.mono ?_; rintro e w2 ⟨rfl, hw2⟩; obtain ⟨d10, d11, hx⟩ := HX.out w2 hw2; have HXX := hide hx; clear hx hw2))
    go_end0
    exact ⟨rfl, HXX.out⟩
  · go_enter Tryz.func21, Tryz.ntmps21
    go_wp2_with (first | (go_at_call 43; refine CA.out.mono ?_; rintro e w2 ⟨rfl, hw2⟩; obtain ⟨d10, d11, hx⟩ := HX.out w2 hw2; have HXX := hide hx; clear hx hw2))
    go_end0
    exact ⟨rfl, HXX.out⟩
end Go.Proofs.YtkncboinfcnklabGreatDoor.Kq

namespace Go.Proofs.YtkncboinfcnklabGreatDoor.Kq
open Go.RowKit Go.Deep Go.Shelf Go.Proofs.YtkncboinfcnklabGreatDoor.Mth Go.Proofs.YtkncboinfcnklabGreatDoor.Kp

theorem foC_at : ∀ {l : List Fo} {j : Nat}, j < l.length → (l.flatMap foC)[j * 4]? = some (.int .i64 ((l.getD j fo0).num : Int)) ∧ (l.flatMap foC)[j * 4 + 1]? = some (.string (l.getD j fo0).word) ∧ (l.flatMap foC)[j * 4 + 2]? = some (.int .i64 ((l.getD j fo0).next : Int)) ∧ (l.flatMap foC)[j * 4 + 3]? = some (.bool (l.getD j fo0).there)
  | f :: l, 0, _ => by simp [foC]
  | f :: l, j + 1, h => by
    obtain ⟨h1, h2, h3, h4⟩ := foC_at (l := l) (j := j) (by simpa using h)
    have e0 : (j + 1) * 4 = j * 4 + 4 := by omega
    have e1 : (j + 1) * 4 + 1 = j * 4 + 1 + 4 := by omega
    have e2 : (j + 1) * 4 + 2 = j * 4 + 2 + 4 := by omega
    have e3 : (j + 1) * 4 + 3 = j * 4 + 3 + 4 := by omega
    rw [e1, e2, e3, e0]
    simp only [List.flatMap_cons, foC, List.cons_append, List.nil_append, List.getElem?_cons_succ, List.getD_cons_succ]
    exact ⟨h1, h2, h3, h4⟩
theorem Sh.fol {w : World} {ρ : Nat → Nat} {B N M lb sb : Nat} {hb : Xt} {G : Gh} {L : Lg} {all : List Ent} {tls : List Fo} {av tv : Value} (h : Sh w ρ B N M lb sb hb G L all tls av tv) {i : Nat} (hi : i < tls.length) : ∃ g c, tv = .slice (some ⟨g, 0, none⟩) tls.length c ∧ tls.length ≤ c ∧ c ≤ maxLen ∧ w.cell? ⟨g, i * 4, none⟩ = some (.int .i64 ((tls.getD i fo0).num : Int)) ∧ w.cell? ⟨g, i * 4 + 1, none⟩ = some (.string (tls.getD i fo0).word) ∧ w.cell? ⟨g, i * 4 + 2, none⟩ = some (.int .i64 ((tls.getD i fo0).next : Int)) ∧ w.cell? ⟨g, i * 4 + 3, none⟩ = some (.bool (tls.getD i fo0).there) := by
  obtain ⟨a, c, e, hc, hm⟩ := own_slice h.mem.trow
  have hrow := h.mem.trow
  rw [e] at hrow
  obtain ⟨g, rfl⟩ := own_some hrow (by omega)
  obtain ⟨h1, h2, h3, h4⟩ := foC_at hi
  exact ⟨g, c, e, hc, hm, own_get hrow h1, own_get hrow h2, own_get hrow h3, own_get hrow h4⟩
theorem wds_wd {x : ByteArray} (h : x ∈ wds) : 0 < x.size ∧ x.size ≤ 60 := by
  simp only [wds, List.mem_cons, List.not_mem_nil, or_false] at h
  rcases h with rfl | rfl | rfl | rfl | rfl | rfl <;> decide
theorem wf_nat {n : Nat} (h : n ≤ 1000000000000) : wf64 (n : Int) := by unfold wf64; simp [Lit.wf, IntKind.min, IntKind.max, IntKind.signed, IntKind.bits]; omega

set_option maxRecDepth 100000 in
set_option maxHeartbeats 1000000 in
theorem polls_no {w : World} {ρ : Nat → Nat} {B N M lb sb : Nat} {hb : Xt} {G : Gh} {L : Lg} {all : List Ent} {tls : List Fo} {av tv : Value} (h : Sh w ρ B N M lb sb hb G L all tls av tv) (hB : B ≤ w.heap.size) {i : Nat} (hi : i < tls.length) (hno : (tls.getD i fo0).there = false) (hM : M ≤ 400000) :
    Calls Tryz.prog 20 #[ptrV sb, .int .i64 (i : Int)] w fun e w' => e = .returned (.tuple #[]) ∧ ShX w w' B N M lb sb hb L all tls := by
  obtain ⟨g, c, rfl, hc, hm, q0, q1, q2, q3⟩ := h.fol hi
  have hat := h.tl.at_ i hi
  have hbd := h.bud
  rw [hno] at q3 hat
  rw [if_neg (by decide)] at hat
  rw [(h.tl.num i hi).1] at q0
  obtain ⟨c12, _⟩ := h.cell (j := 12) (u := .slice (some ⟨g, 0, none⟩) tls.length c) rfl
  generalize (tls.getD i fo0).word = y at *
  generalize (tls.getD i fo0).next = p at *
  have hb1 := below_allocG w (Obj.cells #[.int .i64 (i : Int), .string y, .int .i64 (p : Int), .bool false] 60)
  have hk1 := new_blk w #[.int .i64 (i : Int), .string y, .int .i64 (p : Int), .bool false] 60
  obtain ⟨w1, hw1⟩ : ∃ w1, w1 = w.alloc (Obj.cells #[.int .i64 (i : Int), .string y, .int .i64 (p : Int), .bool false] 60) := ⟨_, rfl⟩
  obtain ⟨nb, hnb⟩ : ∃ nb, nb = w.heap.size := ⟨_, rfl⟩
  rw [← hw1] at hb1 hk1
  rw [← hnb] at hk1
  have h1 := h.below hb1
  have hnlt : nb < w1.heap.size := (Array.getElem?_eq_some_iff.1 hk1).1
  have CP : Hid (∀ W, Below w1.heap.size w1 W → Calls Tryz.prog 42 #[ptrV lb, .int .i64 (i : Int)] W fun e w' => e = .returned (.tuple #[.slice none 0 0, .int .i64 8]) ∧ Below W.heap.size W w') := fun W hb' => poll_no (h1.below hb').log.x (wf_nat (by omega)) hat
  have HX : Hid (∀ W, Below w1.heap.size w1 W → W.cell? ⟨nb, 3, none⟩ = some (.bool false) ∧ ShX w W B N M lb sb hb L all tls) := fun W hb' => ⟨(cell_of (j := 3) ((hb'.block nb hnlt).trans hk1) rfl).1, h.shx hB (hb1.trans (hb'.mono hb1.size))⟩
  obtain ⟨d0, _⟩ := h1.cell (j := 0) (u := ptrV lb) rfl
  obtain ⟨n0, _⟩ := cell_of (j := 0) (u := .int .i64 (i : Int)) hk1 rfl
  have HW1 := hide hw1
  have HNB := hide hnb
  unfold maxLen at hm
  clear h h1 hb1 hk1 hw1 hnb hat
  have hiI : (i : Int) < (tls.length : Int) := by omega
  go_enter Tryz.func20, Tryz.ntmps20
  go_upto_region 1 with fail
  rw [← HW1.out, ← HNB.out]
  go_region_held3 (fun w' => w'.cell? ⟨sb, 0, none⟩ = some (ptrV lb) ∧ w'.cell? ⟨nb, 0, none⟩ = some (.int .i64 (i : Int))) (first | exact ⟨d0, n0⟩ | exact ⟨m0, m1⟩ | fail)
    (first | (go_at_call 42; refine (CP.out _ (drewB w1)).mono ?_; rintro e w3 ⟨rfl, hb3⟩; have hb3' := below_drew1 hb3; obtain ⟨d3, hx⟩ := HX.out w3 hb3'; have HXX := hide hx; have m0 := (hb3'.cell (p := ⟨sb, 0, none⟩) (World.block_lt_of_cell? _ _ d0)).trans d0; have m1 := (hb3'.cell (p := ⟨nb, 0, none⟩) hnlt).trans n0; clear hb3 hb3' hx))
  go_wp2_with fail
  exact bodyPost_ret (results_none rfl _ _ _) rfl ⟨rfl, HXX.out⟩
end Go.Proofs.YtkncboinfcnklabGreatDoor.Kq

namespace Go.Proofs.YtkncboinfcnklabGreatDoor.Kq
open Go.RowKit Go.Deep Go.Shelf Go.Proofs.YtkncboinfcnklabGreatDoor.Mth Go.Proofs.YtkncboinfcnklabGreatDoor.Kp

theorem foC_set : ∀ {l : List Fo} {k : Nat} (f : Fo), k < l.length → ((((l.flatMap foC).set (k * 4) (.int .i64 (f.num : Int))).set (k * 4 + 1) (.string f.word)).set (k * 4 + 2) (.int .i64 (f.next : Int))).set (k * 4 + 3) (.bool f.there) = (l.set k f).flatMap foC
  | g :: l, 0, f, _ => by simp [foC]
  | g :: l, k + 1, f, h => by
    have ih := foC_set (l := l) (k := k) f (by simpa using h)
    have e1 : (k + 1) * 4 + 1 = (k * 4 + 1) + 4 := by omega
    have e2 : (k + 1) * 4 + 2 = (k * 4 + 2) + 4 := by omega
    have e3 : (k + 1) * 4 + 3 = (k * 4 + 3) + 4 := by omega
    have e0 : (k + 1) * 4 = k * 4 + 4 := by omega
    rw [e1, e2, e3, e0, List.flatMap_cons, List.set_cons_succ, List.flatMap_cons, ← ih]
    simp [foC]
/-- A follower is written anew. -/
theorem ShM.tset {w : World} {ρ : Nat → Nat} {B N lb sb g c : Nat} {hb : Xt} {G : Gh} {L : Lg} {C : Array Value} {all : List Ent} {tls : List Fo} {av : Value} (hl : LogAt w ρ B N lb G L) (h : ShM w ρ B sb hb C all tls av (.slice (some ⟨g, 0, none⟩) tls.length c)) (hB : B ≤ w.heap.size) {i : Nat} (hi : i < tls.length) (f : Fo) :
    LogAt ((((w.setCell ⟨g, i * 4, none⟩ (.int .i64 (f.num : Int))).setCell ⟨g, i * 4 + 1, none⟩ (.string f.word)).setCell ⟨g, i * 4 + 2, none⟩ (.int .i64 (f.next : Int))).setCell ⟨g, i * 4 + 3, none⟩ (.bool f.there)) ρ B N lb G L ∧ ShM ((((w.setCell ⟨g, i * 4, none⟩ (.int .i64 (f.num : Int))).setCell ⟨g, i * 4 + 1, none⟩ (.string f.word)).setCell ⟨g, i * 4 + 2, none⟩ (.int .i64 (f.next : Int))).setCell ⟨g, i * 4 + 3, none⟩ (.bool f.there)) ρ B sb hb C all (tls.set i f) av (.slice (some ⟨g, 0, none⟩) tls.length c) ∧ Below B w ((((w.setCell ⟨g, i * 4, none⟩ (.int .i64 (f.num : Int))).setCell ⟨g, i * 4 + 1, none⟩ (.string f.word)).setCell ⟨g, i * 4 + 2, none⟩ (.int .i64 (f.next : Int))).setCell ⟨g, i * 4 + 3, none⟩ (.bool f.there)) := by
  have hT : Tch (fun k => k = g) w ((((w.setCell ⟨g, i * 4, none⟩ (.int .i64 (f.num : Int))).setCell ⟨g, i * 4 + 1, none⟩ (.string f.word)).setCell ⟨g, i * 4 + 2, none⟩ (.int .i64 (f.next : Int))).setCell ⟨g, i * 4 + 3, none⟩ (.bool f.there)) := ⟨rfl, rfl, rfl, by simp, fun k _ hne => by rw [set_other hne, set_other hne, set_other hne, set_other hne]⟩
  obtain ⟨hgB, hgl, D, hD⟩ := own_block h.trow (g := g) rfl
  have hgs : sb ≠ g := fun e => by
    rw [← e] at hD
    exact absurd (cells_ty h.blk hD) (by decide)
  have hrow := own_store (y := .bool f.there) (own_store (y := .int .i64 (f.next : Int)) (own_store (y := .string f.word) (own_store (y := .int .i64 (f.num : Int)) h.trow (i := i * 4) (by omega)) (i := i * 4 + 1) (by omega)) (i := i * 4 + 2) (by omega)) (i := i * 4 + 3) (by omega)
  rw [foC_set f hi] at hrow
  refine ⟨off hl hT (fun k _ e => by rw [e]; exact ⟨h.rt g rfl, notN' hD (by decide)⟩), ⟨(hT.block sb (Array.getElem?_eq_some_iff.1 h.blk).1 hgs).trans h.blk, own_same h.row (fun k hk => hT.block k (own_block h.row hk).2.1 (fun e => ?_)), by rw [List.length_set]; exact hrow, h.rs, h.ra, h.rt, h.ge, h.x.tch hT (fun k e => by rw [e]; exact ⟨_, _, hD, by decide, by decide⟩)⟩, below_tch (Below.refl B w) hT (fun k e => by rw [e]; exact hgB) hB⟩
  obtain ⟨_, _, D', hD'⟩ := own_block h.row hk
  rw [e] at hD'
  exact absurd (cells_ty hD hD') (by decide)
theorem getD_setF (l : List Fo) {i : Nat} (f : Fo) (j : Nat) (hi : i < l.length) : (l.set i f).getD j fo0 = if j = i then f else l.getD j fo0 := by
  by_cases e : j = i
  · subst e
    rw [if_pos rfl]
    simp [List.getD, hi]
  · rw [if_neg e]
    simp [List.getD, Ne.symm e]
/-- A tail goes on. -/
theorem TlR.goOn {L : Lg} {tls : List Fo} {n i t : Nat} {y : ByteArray} (h : TlR L tls n) (hi : i < tls.length) (hy : (tls.getD i fo0).word = y) (ht : t ≤ n) (_hth : (tls.getD i fo0).there = true) : TlR { L with tls := fun z => if z = (i : Int) then some (y, t) else L.tls z } (tls.set i ⟨i, y, t, true⟩) n := by
  refine ⟨fun j hj => ?_, fun j hj => ?_, fun x hx => ?_, by rw [List.length_set]; exact h.subs, h.few⟩
  · rw [List.length_set] at hj
    rw [getD_setF tls _ j hi]
    by_cases e : j = i
    · rw [if_pos e]
      exact ⟨e.symm, by rw [← hy]; exact (h.num i hi).2.1, ht⟩
    · rw [if_neg e]; exact h.num j hj
  · rw [List.length_set] at hj
    rw [getD_setF tls _ j hi]
    simp only
    by_cases e : j = i
    · rw [if_pos e, if_pos (by omega)]
      rfl
    · rw [if_neg e, if_neg (by omega)]; exact h.at_ j hj
  · rw [List.length_set] at hx
    simp only
    rw [if_neg (by omega)]
    exact h.out x hx
/-- In the midst of the loop of polls. -/
structure LpI (w3 wr : World) (nb i : Nat) (y : ByteArray) (all : List Ent) (p b t : Nat) : Prop where
  tch : Tch (fun k => k = nb) w3 wr
  blk : wr.heap[nb]? = some (Obj.cells #[.int .i64 (i : Int), .string y, .int .i64 (t : Int), .bool true] 60 (0, 0))
  pi : PI (hsW y) all p b t
theorem LpI.below {w3 wr w' : World} {nb i p b t : Nat} {y : ByteArray} {all : List Ent} (h : LpI w3 wr nb i y all p b t) (hb : Below wr.heap.size wr w') : LpI w3 w' nb i y all p b t :=
  ⟨h.tch.trans (tch_below (S := fun k => k = nb) hb) (fun _ _ q => q), (hb.block nb (Array.getElem?_eq_some_iff.1 h.blk).1).trans h.blk, h.pi⟩
theorem LpI.next {w3 wr : World} {nb i p b t : Nat} {y : ByteArray} {all : List Ent} (h : LpI w3 wr nb i y all p b t) (ht : t < all.length) (hk : tkn (hsW y) all p t < b) : LpI w3 (wr.setCell ⟨nb, 2, none⟩ (.int .i64 ((t : Int) + 1))) nb i y all p b (t + 1) := by
  refine ⟨⟨h.tch.os, h.tch.tape, h.tch.output, by have := h.tch.size; simpa using this, fun k hk hne => by rw [set_other hne]; exact h.tch.block k hk hne⟩, ?_, h.pi.next ht hk⟩
  have := setCell_blk (j := 2) (v := .int .i64 ((t : Int) + 1)) h.blk
  rw [Int.natCast_add]
  exact this
end Go.Proofs.YtkncboinfcnklabGreatDoor.Kq
