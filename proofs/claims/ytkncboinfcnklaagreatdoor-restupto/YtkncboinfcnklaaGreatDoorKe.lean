import Derived.Test.YtkncboinfcnklaaGreatDoorKM
import Derived.Test.YtkncboinfcnklaaGreatDoorKN
import Derived.Test.YtkncboinfcnklaaGreatDoorKO
import Derived.Test.YtkncboinfcnklaaGreatDoorKP
import Derived.Test.YtkncboinfcnklaaGreatDoorKQ
namespace Go.Proofs.YtkncboinfcnklaaGreatDoor.Kp
open Go.RowKit Go.Deep Go.Shelf Go.Proofs.YtkncboinfcnklaaGreatDoor.Mth

theorem moves_any {w : World} {ρ : Nat → Nat} {B N M lb sb hb : Nat} {G : Gh} {L : Lg} {all : List Ent} {tls : List Fo} {av tv : Value} (h : Sh w ρ B N M lb sb hb G L all tls av tv) (hB : B ≤ w.heap.size) (ht : TabB B w) (ht' : Tab10B B w) (k a b : Int) (s : ByteArray) (hk : I64 k) (ha : I64 a) (hb' : I64 b) (hs : s.size ≤ 1048576) (hM : M ≤ 400000) (hN : N ≤ 1099511627776) (hp : pkI k 11 ≤ 8) :
    Calls Tryz.prog 48 #[ptrV sb, mvV k a b s] w fun e w' => e = .returned (.tuple #[]) ∧ Mvd w w' B (N + 1) (M + 1) lb sb hb := by
  have hbd := pkI_bd k 11 (by omega)
  by_cases h2 : pkI k 11 ≤ 2
  · exact mv_lays h hB ht k a b s hk hs hM (by omega)
  by_cases h3 : pkI k 11 = 3
  · exact mv_passes h hB ht' k a b s hk hb' hM h3
  by_cases h5 : pkI k 11 ≤ 5
  · exact mv_step h hB ht k a b s hk ha hM (by omega)
  by_cases h6 : pkI k 11 = 6
  · by_cases h4 : L.tn < 4
    · refine (mv_sub h hB ht k a b s hk ha h6 h4 hM hN).mono ?_
      rintro e w' ⟨rfl, hx⟩
      exact ⟨rfl, _, _, _, _, Nat.le_refl _, hx⟩
    · exact mv_many h hB ht k a b s hk ha h6 (by omega)
  by_cases h0 : tls.length = 0
  · exact mv_poll0 h hB k a b s hk (by omega) h0
  by_cases h7 : pkI k 11 = 7
  · exact mv_poll h hB k a b s hk ha h7 (by omega) hM hN
  exact mv_unsub h hB k a b s hk ha (by omega) (by omega) hM
end Go.Proofs.YtkncboinfcnklaaGreatDoor.Kp

namespace Go.Proofs.YtkncboinfcnklaaGreatDoor.Kp
open Go.RowKit Go.Deep Go.Shelf Go.Proofs.YtkncboinfcnklaaGreatDoor.Mth

theorem Inv.new {m f bk n kp bt : Nat} (hc : cfgB m f bk n kp bt = true) : Inv (Lg.new m f bk n kp bt) [] := by
  unfold cfgB at hc
  simp only [Bool.and_eq_true, decide_eq_true_eq] at hc
  have hw : ∀ q, ((Lg.new m f bk n kp bt).wks.getD q wk0) = wk0 := fun q => by
    simp only [Lg.new, List.getD_eq_getElem?_getD, List.getElem?_replicate]
    split <;> rfl
  have hct : ∀ i, ct (Lg.new m f bk n kp bt).wks i = 0 := fun i => by
    simp [Lg.new, ct, wk0, tc]
  refine ⟨⟨⟨by simp [Lg.new]; omega, by simp [Lg.new]; omega⟩, ⟨by simp [Lg.new]; omega, by simp [Lg.new]; omega⟩, by simp [Lg.new]; omega, ⟨by simp [Lg.new]; omega, by simp [Lg.new]; omega⟩, ⟨by simp [Lg.new]; omega, by simp [Lg.new]; omega⟩, by simp [Lg.new]; omega⟩, by simp [Lg.new], ⟨fun j hj => absurd hj (by simp), List.Pairwise.nil, fun e he => by cases he⟩, rfl, ?_, (fun e he => by cases he), ?_, by simp [Lg.new], fun i => by rw [hct]; omega, fun i hi => by rw [hct] at hi; omega, fun i _ hi => ?_, fun q _ => ?_, (fun x p hp => by cases hp)⟩
  · rw [sto_eq]
    simp [Lg.new]
  · intro es hes
    rw [segs_eq] at hes
    simp [Lg.new] at hes
  · simp [Lg.new] at hi
    omega
  · rw [hw q]
    exact ⟨(fun i hi => by cases hi), fun _ => rfl⟩
theorem TlR.new (m f bk n kp bt : Nat) : TlR (Lg.new m f bk n kp bt) [] 0 := ⟨fun i hi => absurd hi (by simp), fun i hi => absurd hi (by simp), fun x _ => rfl, rfl, by simp [Lg.new]⟩

abbrev caO (c0 c1 c2 c3 c4 c5 : Int) : Obj := Obj.cells #[.int .i64 c0, .int .i64 c1, .int .i64 c2, .int .i64 c3, .int .i64 c4, .int .i64 c5] 49
abbrev caV (c0 c1 c2 c3 c4 c5 : Int) : Value := .agg #[.int .i64 c0, .int .i64 c1, .int .i64 c2, .int .i64 c3, .int .i64 c4, .int .i64 c5]
set_option maxRecDepth 100000 in
set_option maxHeartbeats 4000000 in
theorem opened_any (w : World) (B : Nat) (hB : B ≤ w.heap.size) (ht : TabB B w) (c0 c1 c2 c3 c4 c5 : Int) (m f bk n kp bt : Nat) (h0 : I64 c0) (h1 : I64 c1) (h2 : I64 c2) (h3 : I64 c3) (h4 : I64 c4) (h5 : I64 c5)
    (e0 : 1 + pkI c0 8 = (m : Int)) (e1 : 2 + pkI c1 3 = (f : Int)) (e2 : pkI c2 5 = (bk : Int)) (e3 : 1 + pkI c3 4 = (n : Int)) (e4 : 1 + pkI c4 1000000 = (kp : Int)) (e5 : 1 + pkI c5 8 = (bt : Int)) :
    Calls Tryz.prog 46 #[caV c0 c1 c2 c3 c4 c5] w fun e w' => ∃ sb lb hb, e = .returned (ptrV sb) ∧ ShX w w' B 0 0 lb sb hb (Lg.new m f bk n kp bt) [] [] := by
  have hcf : cfgB m f bk n kp bt = true := by
    have b0 := pkI_bd c0 8 (by omega)
    have b1 := pkI_bd c1 3 (by omega)
    have b2 := pkI_bd c2 5 (by omega)
    have b3 := pkI_bd c3 4 (by omega)
    have b4 := pkI_bd c4 1000000 (by omega)
    have b5 := pkI_bd c5 8 (by omega)
    unfold cfgB
    simp only [Bool.and_eq_true, decide_eq_true_eq]
    omega
  have hb1 := below_allocG w (caO c0 c1 c2 c3 c4 c5)
  have hk1 := new_blk w #[.int .i64 c0, .int .i64 c1, .int .i64 c2, .int .i64 c3, .int .i64 c4, .int .i64 c5] 49
  obtain ⟨w1, hw1⟩ : ∃ w1, w1 = w.alloc (caO c0 c1 c2 c3 c4 c5) := ⟨_, rfl⟩
  rw [← hw1] at hb1 hk1
  obtain ⟨nb, hnb⟩ : ∃ nb, nb = w.heap.size := ⟨_, rfl⟩
  rw [← hnb] at hk1
  have hnlt : nb < w1.heap.size := (Array.getElem?_eq_some_iff.1 hk1).1
  have CD := hide (apiNew_any w1 B (Nat.le_trans hB hb1.size))
  have CC : Hid (∀ W, Calls Tryz.prog 84 #[caV c0 c1 c2 c3 c4 c5] W fun e w' => e = .returned (.agg #[.int .i64 (m : Int), .int .i64 (f : Int), .int .i64 (bk : Int), .int .i64 (n : Int), .int .i64 (kp : Int), .int .i64 (bt : Int)]) ∧ Below W.heap.size W w') := fun W => by
    have := config_any c0 c1 c2 c3 c4 c5 W h0 h1 h2 h3 h4 h5
    rwa [e0, e1, e2, e3, e4, e5] at this
  have HW1 := hide hw1
  have HB1 := hide hb1
  have HK1 := hide hk1
  have HT := hide ht
  have HNB := hide hnb
  have HCF := hide hcf
  clear hb1 hk1 hw1 ht hcf e0 e1 e2 e3 e4 e5 h0 h1 h2 h3 h4 h5
  go_enter Tryz.func46, Tryz.ntmps46
  go_upto_region 1 with fail
  rw [← HW1.out, ← HNB.out]
  clear hnb
  go_upto_region 2 with (first
    | (go_at_call 13; refine CD.out.mono ?_; rintro e w2 ⟨d, hb, b, rfl, hbn, hdn, hhn, hb2, hst, hpd, hph⟩; have HB2 := hide hb2; have HST := hide hst; have HPD := hide hpd; clear hb2 hst hpd hph))
  have hk2 := (HB2.out.block nb hnlt).trans HK1.out
  obtain ⟨a0, _⟩ := cell_of (j := 0) (u := .int .i64 c0) hk2 rfl
  obtain ⟨a1, _⟩ := cell_of (j := 1) (u := .int .i64 c1) hk2 rfl
  obtain ⟨a2, _⟩ := cell_of (j := 2) (u := .int .i64 c2) hk2 rfl
  obtain ⟨a3, _⟩ := cell_of (j := 3) (u := .int .i64 c3) hk2 rfl
  obtain ⟨a4, _⟩ := cell_of (j := 4) (u := .int .i64 c4) hk2 rfl
  obtain ⟨a5, _⟩ := cell_of (j := 5) (u := .int .i64 c5) hk2 rfl
  clear hk2
  go_upto_region 3 with (first
    | (go_at_call 84; refine (CC.out _).mono ?_; rintro e w3 ⟨rfl, hb3⟩; have HB3 := hide hb3; clear hb3))
  have hb4 := below_allocG w3 (Obj.cells #[.int .i64 (m : Int), .int .i64 (f : Int), .int .i64 (bk : Int), .int .i64 (n : Int), .int .i64 (kp : Int), .int .i64 (bt : Int)] 56)
  have hk4 := new_blk w3 #[.int .i64 (m : Int), .int .i64 (f : Int), .int .i64 (bk : Int), .int .i64 (n : Int), .int .i64 (kp : Int), .int .i64 (bt : Int)] 56
  obtain ⟨w4, hw4⟩ : ∃ w4, w4 = w3.alloc (Obj.cells #[.int .i64 (m : Int), .int .i64 (f : Int), .int .i64 (bk : Int), .int .i64 (n : Int), .int .i64 (kp : Int), .int .i64 (bt : Int)] 56) := ⟨_, rfl⟩
  rw [← hw4] at hb4 hk4 ⊢
  obtain ⟨kb, hkb⟩ : ∃ kb, kb = w3.heap.size := ⟨_, rfl⟩
  rw [← hkb] at hk4 ⊢
  have h24 : Below w2.heap.size w2 w4 := HB3.out.trans (hb4.mono HB3.out.size)
  have h04 : Below w.heap.size w w4 := HB1.out.trans ((HB2.out.trans (h24.mono HB2.out.size)).mono HB1.out.size)
  have hbkb : b < kb := by rw [hkb]; exact Nat.lt_of_lt_of_le HST.out.lt HB3.out.size
  have hklt : kb < w4.heap.size := (Array.getElem?_eq_some_iff.1 hk4).1
  have hB4 : B ≤ w4.heap.size := Nat.le_trans hB h04.size
  have hB04 : Below B w w4 := belowB h04 hB
  have CN := hide (new_log m f bk n kp bt HCF.out (HST.out.below h24) (HPD.out.below h24) hB4 (Nat.le_trans (Nat.le_trans hB HB1.out.size) hdn) (HT.out.next hB04))
  have HKB : Hid (∀ w5, Tch (fun k => k = b) w4 w5 → w5.heap[kb]? = some (Obj.cells #[.int .i64 (m : Int), .int .i64 (f : Int), .int .i64 (bk : Int), .int .i64 (n : Int), .int .i64 (kp : Int), .int .i64 (bt : Int)] 56)) := fun w5 h => (h.block kb hklt (by omega)).trans hk4
  have FIN : Hid (∀ w5 lb, NewL w4 w5 B b lb (Lg.new m f bk n kp bt) → ShX w (w5.alloc (Obj.cells #[ptrV lb, ptrV hb, .int .i64 (m : Int), .int .i64 (f : Int), .int .i64 (bk : Int), .int .i64 (n : Int), .int .i64 (kp : Int), .int .i64 (bt : Int), .slice none 0 0, .int .i64 0, .slice none 0 0, .int .i64 0, .slice none 0 0, .bool true] 61)) B 0 0 lb w5.heap.size hb (Lg.new m f bk n kp bt) [] []) := by
    intro w5 lb hn5
    obtain ⟨⟨ρ, G, hl, hlf, hdt⟩, ht5⟩ := hn5
    have hB5 : B ≤ w5.heap.size := Nat.le_trans hB4 ht5.size
    have hb6 := below_allocG w5 (Obj.cells #[ptrV lb, ptrV hb, .int .i64 (m : Int), .int .i64 (f : Int), .int .i64 (bk : Int), .int .i64 (n : Int), .int .i64 (kp : Int), .int .i64 (bt : Int), .slice none 0 0, .int .i64 0, .slice none 0 0, .int .i64 0, .slice none 0 0, .bool true] 61)
    have hk6 := new_blk w5 #[ptrV lb, ptrV hb, .int .i64 (m : Int), .int .i64 (f : Int), .int .i64 (bk : Int), .int .i64 (n : Int), .int .i64 (kp : Int), .int .i64 (bt : Int), .slice none 0 0, .int .i64 0, .slice none 0 0, .int .i64 0, .slice none 0 0, .bool true] 61
    have hB45 : Below B w4 w5 := below_tch (Below.refl B w4) ht5 (fun k e => by rw [e]; exact Nat.le_trans (Nat.le_trans hB HB1.out.size) hbn) hB4
    refine ⟨⟨ρ, G, .slice none 0 0, .slice none 0 0, hl.below hb6, ⟨?_, World.ownsRow_nil _ _ _ _, World.ownsRow_nil _ _ _ _, hl.free (Nat.le_refl _), (fun g hg => by cases hg), (fun g hg => by cases hg), hB5⟩, Inv.new HCF.out, hlf, ⟨by rw [hdt]; simp [ByteArray.size], by simp, by simp⟩, TlR.new _ _ _ _ _ _⟩, hB04.trans (hB45.trans (belowB hb6 hB5))⟩
    rw [hk6]
    simp [shC, Lg.new]
  obtain ⟨q0, _⟩ := cell_of (j := 0) (u := .int .i64 (m : Int)) hk4 rfl
  obtain ⟨q1, _⟩ := cell_of (j := 1) (u := .int .i64 (f : Int)) hk4 rfl
  obtain ⟨q2, _⟩ := cell_of (j := 2) (u := .int .i64 (bk : Int)) hk4 rfl
  obtain ⟨q3, _⟩ := cell_of (j := 3) (u := .int .i64 (n : Int)) hk4 rfl
  obtain ⟨q4, _⟩ := cell_of (j := 4) (u := .int .i64 (kp : Int)) hk4 rfl
  obtain ⟨q5, _⟩ := cell_of (j := 5) (u := .int .i64 (bt : Int)) hk4 rfl
  clear a0 a1 a2 a3 a4 a5 hb4 hk4 hw4 hkb h24 h04
  go_upto_region 4 with (first
    | (go_at_call 85; refine CN.out.mono ?_; rintro e w5 ⟨lb, rfl, hn5⟩; have HF := hide (FIN.out w5 lb hn5); have hk5 := HKB.out w5 hn5.tch; clear hn5))
  clear q0 q1 q2 q3 q4 q5
  obtain ⟨q0, _⟩ := cell_of (j := 0) (u := .int .i64 (m : Int)) hk5 rfl
  obtain ⟨q1, _⟩ := cell_of (j := 1) (u := .int .i64 (f : Int)) hk5 rfl
  obtain ⟨q2, _⟩ := cell_of (j := 2) (u := .int .i64 (bk : Int)) hk5 rfl
  obtain ⟨q3, _⟩ := cell_of (j := 3) (u := .int .i64 (n : Int)) hk5 rfl
  obtain ⟨q4, _⟩ := cell_of (j := 4) (u := .int .i64 (kp : Int)) hk5 rfl
  obtain ⟨q5, _⟩ := cell_of (j := 5) (u := .int .i64 (bt : Int)) hk5 rfl
  clear hk5
  go_wp2_with fail
  go_ret
  exact ⟨_, _, _, rfl, HF.out⟩
end Go.Proofs.YtkncboinfcnklaaGreatDoor.Kp
