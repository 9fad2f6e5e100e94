import Derived.Test.YtkncboinfcnklabGreatDoorQ26
import Derived.Test.YtkncboinfcnklabGreatDoorQ17
import Derived.Test.YtkncboinfcnklabGreatDoorQ23
import Derived.Test.YtkncboinfcnklabGreatDoorQ19
namespace Go.Proofs.YtkncboinfcnklabGreatDoor
open Go.RowKit Go.Deep Go.Shelf Go.Proofs.YtkncboinfcnklabGreatDoor.Mth

/-- A log over records: all entries in one segment of the last level. -/
def Lg.over0 (m f bk n kp bt : Nat) (rs : List Rc) : Lg := { Lg.new m f bk n kp bt with clock := (rcP rs).1, count := (rcP rs).2.length }
def Lg.over (m f bk n kp bt : Nat) (rs : List Rc) : Lg := if (rcP rs).2.length = 0 then Lg.over0 m f bk n kp bt rs else (Lg.over0 m f bk n kp bt rs).put 5 (rcP rs).2
theorem rcP_tx : ∀ (rs : List Rc) (p : Nat × List Ent), (∀ e ∈ p.2, e.text.size ≤ 60) → (∀ x ∈ rs, x.ok) → ∀ e ∈ (rs.foldl rcStep p).2, e.text.size ≤ 60
  | [], _, h, _ => h
  | r :: rs, p, h, hr => by
    refine rcP_tx rs (rcStep p r) ?_ (fun x hx => hr x (by simp [hx]))
    intro e he
    have h1 := hr r (by simp)
    cases r with
    | lay s =>
      rcases List.mem_append.1 he with q | q
      · exact h e q
      · rw [List.mem_singleton.1 q]; exact h1
    | tick k => exact h e he
/-- What New leaves over a journal. -/
structure NewO (w w' : World) (B d b : Nat) (fv : Value) (lb : Nat) (L : Lg) (rs : List Rc) (left : Int) : Prop where
  ex : ∃ ρ G, LogAt w' ρ B 0 lb G L ∧ (G.left = left ∧ tb G.dt = rcL rs ∧ G.sf = G.dt.size ∧ G.sb = b) ∧ ∀ k, k < w.heap.size → ρ k ≠ 0 → k = d ∨ ownD b fv k
  tch : Tch (fun k => k = d ∨ ownD b fv k) w w'
/-- The log's own block, made; its memory's blocks are new. -/
structure NHO (w3 wx : World) (B lb ms mm tm : Nat) (me : Value) (C : Array Value) : Prop extends NHd w3 wx B lb ms mm tm me C where
  sge : ∀ k, ownS ms mm me k → w3.heap.size ≤ k
theorem NewO.put {w wr w4 : World} {B d b : Nat} {fv : Value} {lb : Nat} {L : Lg} {rs : List Rc} {left : Int} (h : NewO w wr B d b fv lb L rs left) (hB : B ≤ wr.heap.size) {s mb : Nat} {ev : Value} {es : List Ent} (hn : NewSeg wr w4 B s es ev mb) (hl : (L.lev 5).length ≤ 4000000) :
    Calls Tryz.prog 38 #[ptrV lb, .int .i64 5, ptrV s] w4 fun e w5 => e = .returned (.tuple #[]) ∧ NewO w w5 B d b fv lb (L.put 5 es) rs left := by
  obtain ⟨⟨ρ, G, h1, h2, h3⟩, hT⟩ := h
  obtain ⟨ρ4, x1, x2, x3, x4, x5, x6⟩ := h1.x.newSeg hB hn
  have hm4 := h1.m.same x6
  have hp := put_log x1 (Nat.le_trans hB hn.bel.size) (i := 5) (by omega) hn.seg x2 x3 hl
  refine Calls.mono hp ?_
  rintro e w5 ⟨rfl, ρ5, v5, y1, y2, y3, y4⟩
  have hm5 := (LM.role (ρ' := ρ4) hm4 (fun g q => (x5 g (by omega)).trans q)).same y4
  have hm6 := LM.role (ρ' := ρ5) hm5 (fun g q => (y3 g (by omega)).trans q)
  have hst := x4.trans y2
  refine ⟨rfl, ⟨ρ5, _, ⟨y1, ⟨hm6.seg, hm6.rl⟩⟩, h2, fun k hk q => h3 k hk (fun e => q (hst.old k (Nat.lt_of_lt_of_le hk hT.size) e))⟩, hT.trans hst.tch (fun k hk q => h3 k hk q.1)⟩

set_option maxRecDepth 100000 in
set_option maxHeartbeats 4000000 in
theorem new_over {w : World} {B b d : Nat} {fs : List Fl} {left : Int} {fv : Value} (m f bk n kp bt : Nat) (hc : cfgB m f bk n kp bt = true) (h : St 82 87 w B b fs left fv) (hp : Ptr 104 w d b) (hB : B ≤ w.heap.size) (hd : B ≤ d) (ht : TabB B w) (hlf : left = -1 ∨ 5 ≤ left) (h2 : left < 9223372036854775808) (hfs : JD fs) (hlen : fs.length ≤ 1000) {dt : ByteArray} (hD : jDat fs dt) {rs : List Rc} {t : List Int} (hr : tb dt = rcL rs ++ t) (htn : Torn t) (hok : ∀ x ∈ rs, x.ok) (hnr : rs.length ≤ 1000000) (hrs : dt.size ≤ 1099511627776) (hcl : (rcP rs).1 ≤ 1000000000000) :
    Calls Tryz.prog 16 #[.agg #[.int .i64 (m : Int), .int .i64 (f : Int), .int .i64 (bk : Int), .int .i64 (n : Int), .int .i64 (kp : Int), .int .i64 (bt : Int)], ptrV d] w fun e w' => ∃ lb, e = .returned (.tuple #[ptrV lb, .int .i64 0]) ∧ NewO w w' B d b fv lb (Lg.over m f bk n kp bt rs) rs (decL (decL (decL (decL left)))) := by
  have hn : 1 ≤ n ∧ n ≤ 4 := by
    unfold cfgB at hc
    simp only [Bool.and_eq_true, decide_eq_true_eq] at hc
    omega
  have hb1 := below_allocG w (Obj.cells #[.int .i64 (m : Int), .int .i64 (f : Int), .int .i64 (bk : Int), .int .i64 (n : Int), .int .i64 (kp : Int), .int .i64 (bt : Int)] 32)
  have hk1 := new_blk w #[.int .i64 (m : Int), .int .i64 (f : Int), .int .i64 (bk : Int), .int .i64 (n : Int), .int .i64 (kp : Int), .int .i64 (bt : Int)] 32
  obtain ⟨w1, hw1⟩ : ∃ w1, w1 = w.alloc (Obj.cells #[.int .i64 (m : Int), .int .i64 (f : Int), .int .i64 (bk : Int), .int .i64 (n : Int), .int .i64 (kp : Int), .int .i64 (bt : Int)] 32) := ⟨_, rfl⟩
  rw [← hw1] at hb1 hk1
  obtain ⟨nb, hnb⟩ : ∃ nb, nb = w.heap.size := ⟨_, rfl⟩
  rw [← hnb] at hk1
  have hnlt : nb < w1.heap.size := (Array.getElem?_eq_some_iff.1 hk1).1
  have hbnb : b < nb := by rw [hnb]; exact h.lt
  have CC := hide (isConfig_any m f bk n kp bt w1)
  rw [hc] at CC
  have CD : Hid (∀ W, Below w1.heap.size w1 W → Calls Tryz.prog 34 #[ptrV d] W fun e w' => e = .returned (.bool true) ∧ w' = W) := fun W hb => isDisk_any (hp.below (hb1.trans (hb.mono hb1.size)))
  have CO : Hid (∀ W, Below w1.heap.size w1 W → Calls Tryz.prog 35 #[ptrV d] W fun e w' => ∃ jb v, e = .returned (.tuple #[ptrV jb, v, .bool true]) ∧ OpnR W w' B d b jb fv rs (decL (decL (decL (decL left)))) v) := fun W hb =>
    open_ok (h.below (hb1.trans (hb.mono hb1.size))) (hp.below (hb1.trans (hb.mono hb1.size))) (Nat.le_trans hB (hb1.trans (hb.mono hb1.size)).size) hd hlf h2 hfs hlen hD hr htn hok hnr hrs hcl
  have HOW : Hid (∀ g, ownD b fv g → g < w.heap.size ∧ B ≤ g) := fun g hg => ⟨h.ownLt hg, by
    rcases hg with q | q
    · rw [q]; exact h.ge
    · exact (own_block h.own q).1⟩
  have HDL : Hid (d < w.heap.size) := (Array.getElem?_eq_some_iff.1 hp).1
  have HTX : Hid (∀ e ∈ (rcP rs).2, e.text.size ≤ 60) := rcP_tx rs (0, []) (fun e he => by cases he) hok
  have hes : (rcP rs).2.length ≤ 1000000 := Nat.le_trans rcP_es hnr
  generalize decL (decL (decL (decL left))) = l4 at *
  obtain ⟨a0, _⟩ := cell_of (j := 0) (u := .int .i64 (m : Int)) hk1 rfl
  obtain ⟨a1, _⟩ := cell_of (j := 1) (u := .int .i64 (f : Int)) hk1 rfl
  obtain ⟨a2, _⟩ := cell_of (j := 2) (u := .int .i64 (bk : Int)) hk1 rfl
  obtain ⟨a3, _⟩ := cell_of (j := 3) (u := .int .i64 (n : Int)) hk1 rfl
  obtain ⟨a4, _⟩ := cell_of (j := 4) (u := .int .i64 (kp : Int)) hk1 rfl
  obtain ⟨a5, _⟩ := cell_of (j := 5) (u := .int .i64 (bt : Int)) hk1 rfl
  have HW1 := hide hw1
  have HB1 := hide hb1
  have HK1 := hide hk1
  have HT := hide ht
  have HNB := hide hnb
  clear h hp hb1 hk1 hw1 hc ht hlf h2 hfs hlen hD hr htn hok hnr hrs hcl hbnb
  go_enter Tryz.func16, Tryz.ntmps16
  go_upto_region 1 with fail
  rw [← HW1.out, ← HNB.out]
  clear hnb
  go_wp2_with (first
    | (go_at_call 33; refine CC.out.mono ?_; rintro e w2 ⟨rfl, hb2⟩; have HB2 := hide hb2; clear hb2)
    | (go_at_call 34; refine (CD.out _ HB2.out).mono ?_; rintro e w' ⟨rfl, hw'⟩; rw [hw']; clear hw' w')
    | (go_at_call 35; refine (CO.out _ HB2.out).mono ?_; rintro e w3 ⟨jb, v3, rfl, ho3⟩; have HO3 := hide ho3; obtain ⟨va, vc, rfl, hvc, hvm⟩ := own_slice ho3.row; clear ho3))
  have hk3 : w3.heap[nb]? = some (Obj.cells #[.int .i64 (m : Int), .int .i64 (f : Int), .int .i64 (bk : Int), .int .i64 (n : Int), .int .i64 (kp : Int), .int .i64 (bt : Int)] 32 (0, 0)) := (HO3.out.tch.block nb (Nat.lt_of_lt_of_le hnlt HB2.out.size) (fun q => by have h1 := (HOW.out _ q).1; have h2 := HNB.out; omega)).trans ((HB2.out.block nb hnlt).trans HK1.out)
  have hT3 : Tch (ownD b fv) w w3 := (tch_below (S := ownD b fv) HB1.out).trans ((tch_below (S := ownD b fv) HB2.out).trans HO3.out.tch (fun _ _ q => q)) (fun _ _ q => q)
  have hBw3 : Below B w w3 := below_tch (Below.refl B w) hT3 (fun k e => (HOW.out k e).2) hB
  have hB3 : B ≤ w3.heap.size := Nat.le_trans hB hT3.size
  have hnlt3 : nb < w3.heap.size := (Array.getElem?_eq_some_iff.1 hk3).1
  have HK : Hid (∀ W, Below w3.heap.size w3 W → W.cell? ⟨nb, 0, none⟩ = some (.int .i64 (m : Int)) ∧ W.cell? ⟨nb, 1, none⟩ = some (.int .i64 (f : Int)) ∧ W.cell? ⟨nb, 2, none⟩ = some (.int .i64 (bk : Int)) ∧ W.cell? ⟨nb, 3, none⟩ = some (.int .i64 (n : Int)) ∧ W.cell? ⟨nb, 4, none⟩ = some (.int .i64 (kp : Int)) ∧ W.cell? ⟨nb, 5, none⟩ = some (.int .i64 (bt : Int))) := by
    intro W hb
    have hk := (hb.block nb hnlt3).trans hk3
    exact ⟨(cell_of (j := 0) hk rfl).1, (cell_of (j := 1) hk rfl).1, (cell_of (j := 2) hk rfl).1, (cell_of (j := 3) hk rfl).1, (cell_of (j := 4) hk rfl).1, (cell_of (j := 5) hk rfl).1⟩
  have CN : Hid (∀ W, Below w3.heap.size w3 W → Calls Tryz.prog 36 #[.slice none 0 0] W fun r w' => ∃ s mb ev, r = .returned (.pointer (some ⟨s, 0, none⟩)) ∧ NewSeg W w' B s [] ev mb) := fun W hb => newSeg_any W B (Nat.le_trans hB3 hb.size) ((HT.out.next (hBw3.trans (hb.mono hB3))).now) (rdE_nil W) (fun e he => by cases he) (by simp)
  have FA : Hid (∀ (w4 : World) (s mb : Nat) (ev : Value), NewSeg w3.drew w4 B s [] ev mb → NHO w3 ((w4.alloc (Obj.map #[] 0)).alloc (Obj.cells #[.int .i64 (m : Int), .int .i64 (f : Int), .int .i64 (bk : Int), .int .i64 (n : Int), .int .i64 (kp : Int), .int .i64 (bt : Int), ptrV jb, ptrV s, .slice none 0 0, .slice none 0 0, .slice none 0 0, .slice none 0 0, .slice none 0 0, .slice none 0 0, .slice none 0 0, .map (some w4.heap.size), .int .i64 0] 78)) B (w4.heap.size + 1) s mb w4.heap.size ev #[.int .i64 (m : Int), .int .i64 (f : Int), .int .i64 (bk : Int), .int .i64 (n : Int), .int .i64 (kp : Int), .int .i64 (bt : Int), ptrV jb, ptrV s, .slice none 0 0, .slice none 0 0, .slice none 0 0, .slice none 0 0, .slice none 0 0, .slice none 0 0, .slice none 0 0, .map (some w4.heap.size), .int .i64 0]) := by
    intro w4 s mb ev hs
    have hb4 : Below w3.heap.size w3 w4 := below_drew1 hs.bel
    have hbm := below_allocG w4 (Obj.map #[] 0)
    have hbc := below_allocG (w4.alloc (Obj.map #[] 0)) (Obj.cells #[.int .i64 (m : Int), .int .i64 (f : Int), .int .i64 (bk : Int), .int .i64 (n : Int), .int .i64 (kp : Int), .int .i64 (bt : Int), ptrV jb, ptrV s, .slice none 0 0, .slice none 0 0, .slice none 0 0, .slice none 0 0, .slice none 0 0, .slice none 0 0, .slice none 0 0, .map (some w4.heap.size), .int .i64 0] 78)
    have hbb := hbm.trans (hbc.mono hbm.size)
    have hsz := hb4.size
    refine ⟨⟨hb4.trans (hbb.mono hb4.size), ?_, hs.seg.below hbb, ?_, ?_, ⟨by omega, hsz⟩⟩, fun k q => hs.new k q⟩
    · have := new_blk (w4.alloc (Obj.map #[] 0)) #[.int .i64 (m : Int), .int .i64 (f : Int), .int .i64 (bk : Int), .int .i64 (n : Int), .int .i64 (kp : Int), .int .i64 (bt : Int), ptrV jb, ptrV s, .slice none 0 0, .slice none 0 0, .slice none 0 0, .slice none 0 0, .slice none 0 0, .slice none 0 0, .slice none 0 0, .map (some w4.heap.size), .int .i64 0] 78
      rwa [World.size_alloc] at this
    · refine (hbc.block w4.heap.size (by simp)).trans ?_
      show (w4.heap.push _)[w4.heap.size]? = _
      rw [Array.getElem?_push, if_pos rfl]
    · have := hs.seg.idx.lt
      omega
  have hbm3 : Below w3.heap.size w3 (w3.alloc (Obj.map #[] 0)).drew := ⟨(below_allocG w3 (Obj.map #[] 0)).os, (below_allocG w3 (Obj.map #[] 0)).tape, (below_allocG w3 (Obj.map #[] 0)).output, (below_allocG w3 (Obj.map #[] 0)).size, (below_allocG w3 (Obj.map #[] 0)).block⟩
  have FB : Hid (∀ (w4 : World) (s mb : Nat) (ev : Value), NewSeg (w3.alloc (Obj.map #[] 0)).drew w4 B s [] ev mb → NHO w3 (w4.alloc (Obj.cells #[.int .i64 (m : Int), .int .i64 (f : Int), .int .i64 (bk : Int), .int .i64 (n : Int), .int .i64 (kp : Int), .int .i64 (bt : Int), ptrV jb, ptrV s, .slice none 0 0, .slice none 0 0, .slice none 0 0, .slice none 0 0, .slice none 0 0, .slice none 0 0, .slice none 0 0, .map (some w3.heap.size), .int .i64 0] 78)) B w4.heap.size s mb w3.heap.size ev #[.int .i64 (m : Int), .int .i64 (f : Int), .int .i64 (bk : Int), .int .i64 (n : Int), .int .i64 (kp : Int), .int .i64 (bt : Int), ptrV jb, ptrV s, .slice none 0 0, .slice none 0 0, .slice none 0 0, .slice none 0 0, .slice none 0 0, .slice none 0 0, .slice none 0 0, .map (some w3.heap.size), .int .i64 0]) := by
    intro w4 s mb ev hs
    have hb4 : Below w3.heap.size w3 w4 := hbm3.trans (hs.bel.mono hbm3.size)
    have hbc := below_allocG w4 (Obj.cells #[.int .i64 (m : Int), .int .i64 (f : Int), .int .i64 (bk : Int), .int .i64 (n : Int), .int .i64 (kp : Int), .int .i64 (bt : Int), ptrV jb, ptrV s, .slice none 0 0, .slice none 0 0, .slice none 0 0, .slice none 0 0, .slice none 0 0, .slice none 0 0, .slice none 0 0, .map (some w3.heap.size), .int .i64 0] 78)
    refine ⟨⟨hb4.trans (hbc.mono hb4.size), new_blk _ _ _, hs.seg.below hbc, ?_, ?_, ⟨hb4.size, Nat.le_refl _⟩⟩, fun k q => by
      have h' : (w3.alloc (Obj.map #[] 0)).heap.size ≤ k := hs.new k q
      simp at h'
      omega⟩
    · refine (hbc.block w3.heap.size (by have : (w3.alloc (Obj.map #[] 0)).heap.size ≤ w4.heap.size := hs.bel.size; simp at this; omega)).trans ((hs.bel.block w3.heap.size (by show _ < (w3.alloc (Obj.map #[] 0)).heap.size; simp)).trans ?_)
      show (w3.heap.push _)[w3.heap.size]? = _
      rw [Array.getElem?_push, if_pos rfl]
    · have : (w3.alloc (Obj.map #[] 0)).heap.size ≤ mb := hs.new mb (Or.inr (Or.inr rfl))
      simp at this
      omega
  have HT3 := hide hT3
  have HBW3 := hide hBw3
  have hmm := @run_makeMap Tryz.prog
  obtain ⟨z0, z1, z2, z3, z4, z5⟩ := HK.out w3.drew (drewB w3)
  obtain ⟨y0, y1, y2, y3, y4, y5⟩ := HK.out _ hbm3
  have HBM3 := hide hbm3
  clear hbm3
  clear a0 a1 a2 a3 a4 a5 hk3 hT3 hBw3 HK1 HW1 CC CD CO
  go_cut [9] from 10 (fun p wx => ∃ lb ms mm tm me, p = ptrV lb ∧ NHO w3 wx B lb ms mm tm me #[.int .i64 (m : Int), .int .i64 (f : Int), .int .i64 (bk : Int), .int .i64 (n : Int), .int .i64 (kp : Int), .int .i64 (bt : Int), ptrV jb, ptrV ms, .slice none 0 0, .slice none 0 0, .slice none 0 0, .slice none 0 0, .slice none 0 0, .slice none 0 0, .slice none 0 0, .map (some tm), .int .i64 0])
  case first =>
    go_region_held3 (fun w' => w'.cell? ⟨nb, 0, none⟩ = some (.int .i64 (m : Int)) ∧ w'.cell? ⟨nb, 1, none⟩ = some (.int .i64 (f : Int)) ∧ w'.cell? ⟨nb, 2, none⟩ = some (.int .i64 (bk : Int)) ∧ w'.cell? ⟨nb, 3, none⟩ = some (.int .i64 (n : Int)) ∧ w'.cell? ⟨nb, 4, none⟩ = some (.int .i64 (kp : Int)) ∧ w'.cell? ⟨nb, 5, none⟩ = some (.int .i64 (bt : Int))) (first | with_reducible exact ⟨z0, z1, z2, z3, z4, z5⟩ | with_reducible exact ⟨y0, y1, y2, y3, y4, y5⟩ | with_reducible exact ⟨m0, m1, m2, m3, m4, m5⟩ | with_reducible exact ⟨cellA m0, cellA m1, cellA m2, cellA m3, cellA m4, cellA m5⟩ | with_reducible exact ⟨cellA (cellA m0), cellA (cellA m1), cellA (cellA m2), cellA (cellA m3), cellA (cellA m4), cellA (cellA m5)⟩ | fail)
      (first
        | (go_at_call 36; refine (CN.out _ (drewB w3)).mono ?_; rintro e w4 ⟨s4, mb4, ev4, rfl, hs4⟩; have HF := hide (FA.out _ _ _ _ hs4); obtain ⟨m0, m1, m2, m3, m4, m5⟩ := HK.out w4 (below_drew1 hs4.bel); clear hs4)
        | (go_at_call 36; refine (CN.out _ HBM3.out).mono ?_; rintro e w4 ⟨s4, mb4, ev4, rfl, hs4⟩; have HF := hide (FB.out _ _ _ _ hs4); obtain ⟨m0, m1, m2, m3, m4, m5⟩ := HK.out w4 (HBM3.out.trans (hs4.bel.mono HBM3.out.size)); clear hs4))
    all_goals (go_wp2_with fail; go_meet; exact ⟨_, _, _, _, _, rfl, HF.out⟩)
  case rest =>
    obtain ⟨lb, ms, mm, tm, me, rfl, hh⟩ := hcut
    have HH := hide hh
    have hk3' := (HK.out wc hh.bel).2.2.2.1
    have hlbc : lb < wc.heap.size := (Array.getElem?_eq_some_iff.1 hh.blk).1
    obtain ⟨i0, hi0, hz0, hz1, hz2⟩ := info_parts Tryz.info93
    have NW0 : Hid (NWk wc wc lb 0 #[.int .i64 (m : Int), .int .i64 (f : Int), .int .i64 (bk : Int), .int .i64 (n : Int), .int .i64 (kp : Int), .int .i64 (bt : Int), ptrV jb, ptrV ms, .slice none 0 0, .slice none 0 0, .slice none 0 0, .slice none 0 0, .slice none 0 0, .slice none 0 0, .slice none 0 0, .map (some tm), .int .i64 0] [] (.slice none 0 0)) := ⟨rfl, hh.blk, World.ownsRow_nil _ _ _ _, (fun i hi => absurd hi (Nat.not_lt_zero _)), (fun g hg => by cases hg), List.Pairwise.nil, Tch.refl _ _⟩
    have FIN : Hid (∀ wr wbs v, NWk wc wr lb n #[.int .i64 (m : Int), .int .i64 (f : Int), .int .i64 (bk : Int), .int .i64 (n : Int), .int .i64 (kp : Int), .int .i64 (bt : Int), ptrV jb, ptrV ms, .slice none 0 0, .slice none 0 0, .slice none 0 0, .slice none 0 0, .slice none 0 0, .slice none 0 0, .slice none 0 0, .map (some tm), .int .i64 0] wbs v → NewO w wr B d b fv lb (Lg.over0 m f bk n kp bt rs) rs l4 ∧ wr.ownsRow w2.heap.size 49 3 (.slice va (rcP rs).2.length vc) (rcP rs).2.length ((rcP rs).2.flatMap eC)) := by
      intro wr wbs v hw
      have hOp := HO3.out
      obtain ⟨⟨fv', R, hR, hj, hfv⟩, hrw, _, hjb⟩ := hOp
      have hlb3 := hh.ge.1
      have hnn : ∀ g, isN wc g → g ≠ lb := fun g ⟨C', fr, e⟩ q => by
        rw [q] at e
        exact absurd (cells_ty hh.blk e) (by decide)
      have hj' : JAt wr B jb d b (jf R R.size) l4 fv' (rcP rs).1 (rcP rs).2.length := (hj.below hh.bel).same (fun g hg => hw.tch.block g ((hj.below hh.bel).ownLt hg).1 (fun e => by
        have := (hj.ownLt hg).1
        omega))
      have hs' : SegAt wr B ms [] me mm := hh.seg.same (fun g hg => hw.tch.block g (by
        rcases hg with hg | hg
        · exact (hh.seg.ownLt hg).1
        · exact isN_lt hg) (fun e => by
        rcases hg with hg | hg
        · rw [e] at hg
          rcases hh.seg.ty hg with ⟨C', t, fr, h1, h2⟩ | ⟨_, es, c, h1⟩
          · have := cells_ty hh.blk h1
            subst this
            rcases h2 with h2 | h2 <;> exact absurd h2 (by decide)
          · rw [hh.blk] at h1; cases h1
        · exact hnn g hg e))
      have htm : tm ≠ lb := fun e => by have := hh.map; rw [e, hh.blk] at this; cases this
      have hmp : wr.heap[tm]? = some (Obj.map #[] 0) := (hw.tch.block tm (Array.getElem?_eq_some_iff.1 hh.map).1 htm).trans hh.map
      have ht' : TlsAt wr tm 0 (fun _ => none) 0 := by
        have h0 : TlsAt (w3.alloc (Obj.map #[] 0)) w3.heap.size 0 (fun _ => none) 0 := ⟨.map [], 0, World.ownsMap_made w3 _ _ _, Nat.le_refl _, rfl, fun x => ⟨rfl, fun p e => by cases e⟩⟩
        obtain ⟨D, k, ⟨es, c, hb', F⟩, h2⟩ := h0
        have hb2 : (w3.alloc (Obj.map #[] 0)).heap[w3.heap.size]? = some (Obj.map #[] 0) := by
          show (w3.heap.push _)[w3.heap.size]? = _
          rw [Array.getElem?_push, if_pos rfl]
        rw [hb2] at hb'
        injection hb' with hb'
        injection hb' with e1 e2
        subst e1 e2
        exact ⟨D, k, ⟨#[], 0, hmp, F⟩, h2⟩
      have hszc := hh.bel.size
      have hB3 : B ≤ w3.heap.size := Nat.le_trans hB HT3.out.size
      have hl := hw.len
      have hrow : wr.ownsRow B 93 1 v wbs.length (wbs.map ptrV) := by rw [hl]; exact own_base hw.row (Nat.le_trans hB3 hszc)
      obtain ⟨ρ, G, h1, ⟨h2, h3, h4, h5⟩, h6⟩ := LogAt.made3 (m := m) (f := f) (bk := bk) (kp := kp) (bt := bt) (wr := v) (by rw [hl]; exact hw.blk) hj' hs' ht' hrow (by rw [hl]; exact hw.one) (fun i hi => Nat.le_trans (Nat.le_trans hB3 hszc) (hw.ge _ (by rw [← List.getElem_eq_getD (h := hi)]; exact List.getElem_mem hi))) hw.lt (by rw [hl]; exact ⟨by omega, hn.2⟩) (Nat.le_trans hB3 hh.ge.1) (Nat.le_trans hB3 hh.ge.2) hh.ne
      rw [hl] at h1
      have hww2 : w.heap.size ≤ w2.heap.size := Nat.le_trans HB1.out.size HB2.out.size
      refine ⟨⟨⟨ρ, G, h1, ⟨h2, by rw [h3]; exact hR, by rw [h4, h3], h5⟩, fun k hk q => ?_⟩, hw.tch.os.trans (hh.bel.os.trans HT3.out.os), hw.tch.tape.trans (hh.bel.tape.trans HT3.out.tape), hw.tch.output.trans (hh.bel.output.trans HT3.out.output), Nat.le_trans HT3.out.size (Nat.le_trans hszc hw.tch.size), fun k hk hne => ?_⟩, ?_⟩
      · have hk3 := Nat.lt_of_lt_of_le hk HT3.out.size
        rcases h6 k q with q | (q | q | q | q) | q | q | q | q
        · omega
        · omega
        · exact Or.inl q
        · exact Or.inr (Or.inl q)
        · rcases hfv k q with q | q
          · exact Or.inr (Or.inr q)
          · omega
        · have := hh.sge k q
          omega
        · have := hh.ge.2
          omega
        · have := (own_block hw.row q).1
          omega
        · have := hw.ge k q
          omega
      · have hk3 := Nat.lt_of_lt_of_le hk HT3.out.size
        rw [hw.tch.block k (by omega) (by omega), hh.bel.block k hk3]
        exact HT3.out.block k hk (fun q => hne (Or.inr q))
      · refine own_same (Rl.own_belowR hrw hh.bel) (fun g q => ?_)
        obtain ⟨q1, q2, _⟩ := own_block hrw q
        exact hw.tch.block g (Nat.lt_of_lt_of_le q2 hszc) (by omega)
    have CWk : Hid (∀ W, Calls Tryz.prog 37 #[ptrV lb] W fun e w' => e = .returned (ptrV W.heap.size) ∧ w'.heap[W.heap.size]? = some (Obj.cells (wkC lb W.heap.size wk0 (.slice none 0 0)) 110 (0, 0)) ∧ Below W.heap.size W w' ∧ w'.heap.size = W.heap.size + 1) := fun W => newWorker_any lb W
    clear FA FB CN HK HO3 HBM3 y0 y1 y2 y3 y4 y5 z0 z1 z2 z3 z4 z5
    go_wp2_with fail
    go_loopw [34] (fun i wr => ∃ k : Nat, k ≤ n ∧ i = .int .i64 k ∧ ∃ wbs v, NWk wc wr lb k #[.int .i64 (m : Int), .int .i64 (f : Int), .int .i64 (bk : Int), .int .i64 (n : Int), .int .i64 (kp : Int), .int .i64 (bt : Int), ptrV jb, ptrV ms, .slice none 0 0, .slice none 0 0, .slice none 0 0, .slice none 0 0, .slice none 0 0, .slice none 0 0, .slice none 0 0, .map (some tm), .int .i64 0] wbs v) (fun i _ => n - (intOf i).toNat)
    case atStart => exact ⟨0, Nat.zero_le _, rfl, _, _, NW0.out⟩
    case round =>
      obtain ⟨k, hk, rfl, wbs, v, hw⟩ := hrel
      by_cases hlt : k < n
      · obtain ⟨c14, f14⟩ := cell_of (j := 14) (u := v) hw.blk rfl
        obtain ⟨va, vc, rfl, hvc, hvm⟩ := own_slice hw.row
        have HW := hide hw
        have hlbr : lb < wr.heap.size := Nat.lt_of_lt_of_le hlbc hw.tch.size
        have hlbv : some lb ≠ (Value.slice va k vc).ownBlock := fun q => by have := (own_block hw.row q).1; omega
        have hkb : k ≤ 4 := by omega
        unfold maxLen at hvm
        clear hw NW0 FIN
        go_upto_region 9 with fail
        go_region_law
          (first
            | (rw [if_pos (by simp [Region.wanted])]; go_simp; go_at_call 37; refine (CWk.out _).mono ?_; rintro e w5 ⟨rfl, h5, hb5, hsz5⟩; have hb5' : Below wr.heap.size wr w5 := below_drew1 hb5; have q14 := (hb5'.cell (p := ⟨lb, 14, none⟩) hlbr).trans c14; have r14 := cellA (o := Obj.cells #[ptrV wr.heap.size] 93) q14; have HR5 := hide (own_same HW.out.row (fun g hg => hb5'.block g (own_block HW.out.row hg).2.1)); have HB5 := hide hb5'; have H5 := hide h5; clear hb5 hb5' h5 hsz5)
            | (refine step_own _ rfl _ _ 75 rfl wc.heap.size 93 i0 (.pointer none) 1 8 Tryz.underlying75 hi0 hz0 hz1 hz2 rfl (by decide) _ _ _ rfl (HR5.out.alloc _) ⟨w5.heap.size, 0, none⟩ 1 1 [ptrV wr.heap.size] rfl rfl (cells_new _ _ _ _ rfl) (by intro u hu; simp at hu; subst hu; rfl) (by unfold maxLen; omega) (by omega) (by have h1 := HW.out.tch.size; have h2 := HB5.out.size; simp; omega) ?_; intro v6 w6 hown6 hgrow6; obtain ⟨a6, c6, rfl, _, _⟩ := own_slice hown6; have HN := hide (HW.out.more hlbc H5.out HB5.out hown6 rfl hgrow6); have hblk6 := ((hgrow6.block lb (by have h2 := HB5.out.size; simp; omega) hlbv).trans (old_blk _ ((HB5.out.block lb hlbr).trans HW.out.blk))); obtain ⟨s14, g14⟩ := cell_of (j := 14) (u := .slice va k vc) hblk6 rfl; clear hown6 hgrow6 hblk6))
        all_goals (
          go_wp2_with fail
          go_roundw
          case rel => exact ⟨k + 1, by omega, by go_num, _, _, HN.out⟩
          case measure => simp [intOf]; omega)
      · obtain rfl : k = n := by omega
        obtain ⟨hf1, hf2⟩ := FIN.out _ _ _ hw
        have HF := hide hf1
        have hBr : B ≤ wr.heap.size := Nat.le_trans hB hf1.tch.size
        have CSG : Hid (Calls Tryz.prog 36 #[.slice va (rcP rs).2.length vc] wr fun r w' => ∃ s, r = .returned (.pointer (some ⟨s, 0, none⟩)) ∧ Calls Tryz.prog 38 #[ptrV lb, .int .i64 5, ptrV s] w' fun e w5 => e = .returned (.tuple #[]) ∧ NewO w w5 B d b fv lb ((Lg.over0 m f bk k kp bt rs).put 5 (rcP rs).2) rs l4) := by
          refine (newSeg_any wr B hBr (HT.out.next (below_tch (Below.refl B w) hf1.tch (fun g q => by rcases q with q | q; rw [q]; exact hd; exact (HOW.out g q).2) hB)).now (rdE_own hf2) HTX.out (by omega)).mono ?_
          rintro e w' ⟨s, mb, ev, rfl, hns⟩
          exact ⟨s, rfl, hf1.put hBr hns (by simp [Lg.over0, Lg.new])⟩
        have HOV : Hid (Lg.over m f bk k kp bt rs = if (rcP rs).2.length = 0 then Lg.over0 m f bk k kp bt rs else (Lg.over0 m f bk k kp bt rs).put 5 (rcP rs).2) := rfl
        clear hw FIN hf1 hf2
        generalize (Lg.over0 m f bk k kp bt rs).put 5 (rcP rs).2 = LP at *
        generalize Lg.over0 m f bk k kp bt rs = L0 at *
        generalize (rcP rs).2.length = nE at *
        by_cases hE : nE = 0
        · subst hE
          go_wp2_with fail
          go_ret2
          exact ⟨lb, rfl, by rw [HOV.out, if_pos (by trivial)]; exact HF.out⟩
        · have hEI : (0 : Int) < (nE : Int) := by omega
          go_wp2_with (first
            | (go_at_call 36; refine CSG.out.mono ?_; rintro e w5 ⟨s5, rfl, hp5⟩; have HP5 := hide hp5; clear hp5)
            | (go_at_call 38; refine HP5.out.mono ?_; rintro e w6 ⟨rfl, hx6⟩; have HX6 := hide hx6; clear hx6))
          go_ret2
          exact ⟨lb, rfl, by rw [HOV.out, if_neg hE]; exact HX6.out⟩
end Go.Proofs.YtkncboinfcnklabGreatDoor

namespace Go.Proofs.YtkncboinfcnklabGreatDoor.Kp
open Go.RowKit Go.Deep Go.Shelf Go.Proofs.YtkncboinfcnklabGreatDoor.Mth

set_option maxRecDepth 100000 in
set_option maxHeartbeats 1000000 in
theorem passes_ok {w : World} {ρ : Nat → Nat} {B N M lb sb hb : Nat} {G : Gh} {L : Lg} {all : List Ent} {tls : List Fo} {av tv : Value} (h : Sh w ρ B N M lb sb hb G L all tls av tv) (hB : B ≤ w.heap.size) (ht : Tab10B B w) (n : Nat) (h1 : 1 ≤ n) (h2 : n ≤ 1000) (hc : canTick L.clock (n : Int) = true) (hM : M ≤ 400000) :
    Calls Tryz.prog 21 #[ptrV sb, .int .i64 (n : Int)] w fun e w' => e = .returned (.tuple #[]) ∧ ShX w w' B N (M + 1) lb sb hb { L with clock := L.clock + n } all tls := by
  have hclk := h.inv.clk
  have hbd := h.bud
  have hsum : L.clock + n ≤ 1000000000000 := by
    unfold canTick at hc
    simp at hc
    omega
  have CT := hide (tick_ok h.log hB ht.now (by rw [h.left]; omega) (by rw [h.left]; omega) (by rw [h.left]; omega) (by rw [h.left]; omega) n hclk hc (by omega))
  have hit := itoaB_size (n : Int) (by omega) (by omega)
  have HS2 : Hid (∀ w2, Apd w w2 ρ B N lb G { L with clock := L.clock + n } (G.dt ++ recB 1 (itoaB n)) (decL (decL G.left)) → w2.cell? ⟨sb, 9, none⟩ = some (.int .i64 (L.clock : Int)) ∧ w2.frozen? ⟨sb, 9, none⟩ = false ∧ ShX w (w2.setCell ⟨sb, 9, none⟩ (.int .i64 ((L.clock : Int) + (n : Int)))) B N (M + 1) lb sb hb { L with clock := L.clock + n } all tls) := by
    intro w2 ha
    obtain ⟨⟨ρ2, G2, a1, a2, a3, a4, a5⟩⟩ := ha
    have hm2 := h.mem.keep a2
    have hB2 := below_lstp (Below.refl B w) a2 h.log.x.lt hB
    obtain ⟨b1, b2, b3⟩ := ShM.set a1 hm2 9 (.int .i64 ((L.clock + n : Nat) : Int))
    rw [shC_clock] at b2
    rw [Int.natCast_add] at b1 b2 b3
    refine ⟨(cell_of (j := 9) hm2.blk rfl).1, (cell_of (j := 9) (u := .int .i64 (L.clock : Int)) hm2.blk rfl).2, ⟨ρ2, G2, av, tv, b1, b2, h.inv.tick hsum, ?_, ⟨?_, by omega, by omega⟩, h.tl.mono (Nat.le_refl _) rfl rfl rfl⟩, hB2.trans (b3 (Nat.le_trans hB hB2.size))⟩
    · rw [a5, h.left]; decide
    · rw [a4, ByteArray.size_append, recB_size]; omega
  obtain ⟨c0, _⟩ := h.cell (j := 0) (u := ptrV lb) rfl
  clear h hc ht
  generalize hLL : ({ L with clock := L.clock + n } : Lg) = L1 at *
  clear hLL
  go_enter Tryz.func21, Tryz.ntmps21
  go_wp2_with (first | (go_at_call 43; refine CT.out.mono ?_; rintro e w2 ⟨rfl, ha⟩; obtain ⟨d9, f9, hx⟩ := HS2.out w2 ha; have HX := hide hx; clear ha hx))
  go_end0
  exact ⟨rfl, HX.out⟩
end Go.Proofs.YtkncboinfcnklabGreatDoor.Kp

namespace Go.Proofs.YtkncboinfcnklabGreatDoor
open Go.RowKit Go.Deep Go.Shelf Go.Proofs.YtkncboinfcnklabGreatDoor.Mth

def hsW (x : ByteArray) (e : Ent) : Bool := memD x (wd e.text)
/-- What a tail reads is what comes next. -/
theorem Inv.told {L : Lg} {all : List Ent} (h : Inv L all) {z : Int} {x : ByteArray} {p : Nat} (ht : L.tls z = some (x, p)) (b : Nat) : rdT x p b (segs L.lev ++ [L.mem]) = tld (hsW x) all p b := by
  have e1 : (segs L.lev ++ [L.mem]).flatten = sto L := by unfold sto; rw [List.flatten_append]; simp
  unfold rdT tld
  rw [e1, h.filter (fq x p) (fun e he hq => ?_)]
  · have := h.ok.from (hsW x) p
    rw [← this]
    rfl
  · by_cases hin : e ∈ sto L
    · exact hin
    · have := (h.gone e he hin).2 z (x, p) ht
      unfold fq at hq
      simp only [Bool.and_eq_true, decide_eq_true_eq] at hq
      omega
/-- In the midst of a Poll. -/
structure PI (f : Ent → Bool) (all : List Ent) (p b t : Nat) : Prop where
  le : p ≤ t ∧ t ≤ all.length
  or : tkn f all p t < b ∨ (p < t ∧ tkn f all p (t - 1) + 1 = b ∧ tkn f all p t = b ∧ f (all.getD (t - 1) e0) = true)
theorem PI.start {f : Ent → Bool} {all : List Ent} {p b : Nat} (hp : p ≤ all.length) (hb : 1 ≤ b) : PI f all p b p := ⟨⟨Nat.le_refl _, hp⟩, Or.inl (by rw [tkn_start]; omega)⟩
theorem PI.next {f : Ent → Bool} {all : List Ent} {p b t : Nat} (h : PI f all p b t) (ht : t < all.length) (hk : tkn f all p t < b) : PI f all p b (t + 1) := by
  have hn := tkn_next (f := f) h.le.1 ht
  refine ⟨⟨by have := h.le; omega, by omega⟩, ?_⟩
  by_cases hf : f (all.getD t e0) = true
  · rw [if_pos hf] at hn
    by_cases hb : tkn f all p t + 1 < b
    · exact Or.inl (by omega)
    · exact Or.inr ⟨by have := h.le; omega, by rw [Nat.add_sub_cancel]; omega, by omega, by rw [Nat.add_sub_cancel]; exact hf⟩
  · rw [if_neg hf] at hn
    exact Or.inl (by omega)
theorem PI.done {f : Ent → Bool} {all : List Ent} {c p b t : Nat} (ho : AllOk all c) (h : PI f all p b t) (he : t = all.length ∨ tkn f all p t = b) : plc (tld f all p b) b all.length = t ∧ (tld f all p b).length = tkn f all p t := by
  rcases h.or with h1 | ⟨h1, h2, h3, h4⟩
  · have ht : t = all.length := by rcases he with q | q; exact q; omega
    have hl := tld_len (f := f) (all := all) (p := p) (b := b)
    rw [← ht] at hl
    rw [Nat.min_eq_right (by omega)] at hl
    refine ⟨?_, hl⟩
    unfold plc
    rw [if_neg (by omega)]
    exact ht.symm
  · have hl := tkn_full (f := f) (all := all) (b := b) h.le.1 h3
    refine ⟨?_, by omega⟩
    have hat := tld_at (b := b) (f := f) (all := all) (p := p) (t := t - 1) (by omega) (by have := h.le; omega) h4 (by omega)
    unfold plc
    rw [if_pos hl, show b - 1 = tkn f all p (t - 1) by omega, hat.2, ho.num (t - 1) (by have := h.le; omega)]
    omega
theorem Inv.toldSeq {L : Lg} {all : List Ent} (h : Inv L all) {f : Ent → Bool} {p b : Nat} : ∀ e ∈ tld f all p b, 0 ≤ e.seq ∧ e.seq < (all.length : Int) := fun e he => by
  obtain ⟨j, hj, e1, _⟩ := h.ok.mem (tld_mem he).1
  omega
end Go.Proofs.YtkncboinfcnklabGreatDoor

namespace Go.Proofs.YtkncboinfcnklabGreatDoor.Kp
open Go.RowKit Go.Deep Go.Shelf Go.Proofs.YtkncboinfcnklabGreatDoor.Mth

theorem foC_at : ∀ {l : List Fo} {j : Nat}, j < l.length → (l.flatMap foC)[j * 4]? = some (.int .i64 ((l.getD j fo0).num : Int)) ∧ (l.flatMap foC)[j * 4 + 1]? = some (.string (l.getD j fo0).word) ∧ (l.flatMap foC)[j * 4 + 2]? = some (.int .i64 ((l.getD j fo0).next : Int)) ∧ (l.flatMap foC)[j * 4 + 3]? = some (.bool (l.getD j fo0).there)
  | f :: l, 0, _ => by simp [foC]
  | f :: l, j + 1, h => by
    obtain ⟨h1, h2, h3, h4⟩ := foC_at (l := l) (j := j) (by simpa using h)
    have e0 : (j + 1) * 4 = j * 4 + 4 := by omega
    have e1 : (j + 1) * 4 + 1 = j * 4 + 1 + 4 := by omega
    have e2 : (j + 1) * 4 + 2 = j * 4 + 2 + 4 := by omega
    have e3 : (j + 1) * 4 + 3 = j * 4 + 3 + 4 := by omega
    rw [e1, e2, e3, e0]
    simp only [List.flatMap_cons, foC, List.cons_append, List.nil_append, List.getElem?_cons_succ, List.getD_cons_succ]
    exact ⟨h1, h2, h3, h4⟩
theorem Sh.fol {w : World} {ρ : Nat → Nat} {B N M lb sb hb : Nat} {G : Gh} {L : Lg} {all : List Ent} {tls : List Fo} {av tv : Value} (h : Sh w ρ B N M lb sb hb G L all tls av tv) {i : Nat} (hi : i < tls.length) : ∃ g c, tv = .slice (some ⟨g, 0, none⟩) tls.length c ∧ tls.length ≤ c ∧ c ≤ maxLen ∧ w.cell? ⟨g, i * 4, none⟩ = some (.int .i64 ((tls.getD i fo0).num : Int)) ∧ w.cell? ⟨g, i * 4 + 1, none⟩ = some (.string (tls.getD i fo0).word) ∧ w.cell? ⟨g, i * 4 + 2, none⟩ = some (.int .i64 ((tls.getD i fo0).next : Int)) ∧ w.cell? ⟨g, i * 4 + 3, none⟩ = some (.bool (tls.getD i fo0).there) := by
  obtain ⟨a, c, e, hc, hm⟩ := own_slice h.mem.trow
  have hrow := h.mem.trow
  rw [e] at hrow
  obtain ⟨g, rfl⟩ := own_some hrow (by omega)
  obtain ⟨h1, h2, h3, h4⟩ := foC_at hi
  exact ⟨g, c, e, hc, hm, own_get hrow h1, own_get hrow h2, own_get hrow h3, own_get hrow h4⟩
theorem wds_wd {x : ByteArray} (h : x ∈ wds) : 0 < x.size ∧ x.size ≤ 60 := by
  simp only [wds, List.mem_cons, List.not_mem_nil, or_false] at h
  rcases h with rfl | rfl | rfl | rfl | rfl | rfl <;> decide
theorem wf_nat {n : Nat} (h : n ≤ 1000000000000) : wf64 (n : Int) := by unfold wf64; simp [Lit.wf, IntKind.min, IntKind.max, IntKind.signed, IntKind.bits]; omega

end Go.Proofs.YtkncboinfcnklabGreatDoor.Kp

namespace Go.Proofs.YtkncboinfcnklabGreatDoor.Kp
open Go.RowKit Go.Deep Go.Shelf Go.Proofs.YtkncboinfcnklabGreatDoor.Mth

theorem foC_set : ∀ {l : List Fo} {k : Nat} (f : Fo), k < l.length → ((((l.flatMap foC).set (k * 4) (.int .i64 (f.num : Int))).set (k * 4 + 1) (.string f.word)).set (k * 4 + 2) (.int .i64 (f.next : Int))).set (k * 4 + 3) (.bool f.there) = (l.set k f).flatMap foC
  | g :: l, 0, f, _ => by simp [foC]
  | g :: l, k + 1, f, h => by
    have ih := foC_set (l := l) (k := k) f (by simpa using h)
    have e1 : (k + 1) * 4 + 1 = (k * 4 + 1) + 4 := by omega
    have e2 : (k + 1) * 4 + 2 = (k * 4 + 2) + 4 := by omega
    have e3 : (k + 1) * 4 + 3 = (k * 4 + 3) + 4 := by omega
    have e0 : (k + 1) * 4 = k * 4 + 4 := by omega
    rw [e1, e2, e3, e0, List.flatMap_cons, List.set_cons_succ, List.flatMap_cons, ← ih]
    simp [foC]
/-- A follower is written anew. -/
theorem ShM.tset {w : World} {ρ : Nat → Nat} {B N lb sb g c : Nat} {G : Gh} {L : Lg} {C : Array Value} {all : List Ent} {tls : List Fo} {av : Value} (hl : LogAt w ρ B N lb G L) (h : ShM w ρ B sb C all tls av (.slice (some ⟨g, 0, none⟩) tls.length c)) (hB : B ≤ w.heap.size) {i : Nat} (hi : i < tls.length) (f : Fo) :
    LogAt ((((w.setCell ⟨g, i * 4, none⟩ (.int .i64 (f.num : Int))).setCell ⟨g, i * 4 + 1, none⟩ (.string f.word)).setCell ⟨g, i * 4 + 2, none⟩ (.int .i64 (f.next : Int))).setCell ⟨g, i * 4 + 3, none⟩ (.bool f.there)) ρ B N lb G L ∧ ShM ((((w.setCell ⟨g, i * 4, none⟩ (.int .i64 (f.num : Int))).setCell ⟨g, i * 4 + 1, none⟩ (.string f.word)).setCell ⟨g, i * 4 + 2, none⟩ (.int .i64 (f.next : Int))).setCell ⟨g, i * 4 + 3, none⟩ (.bool f.there)) ρ B sb C all (tls.set i f) av (.slice (some ⟨g, 0, none⟩) tls.length c) ∧ Below B w ((((w.setCell ⟨g, i * 4, none⟩ (.int .i64 (f.num : Int))).setCell ⟨g, i * 4 + 1, none⟩ (.string f.word)).setCell ⟨g, i * 4 + 2, none⟩ (.int .i64 (f.next : Int))).setCell ⟨g, i * 4 + 3, none⟩ (.bool f.there)) := by
  have hT : Tch (fun k => k = g) w ((((w.setCell ⟨g, i * 4, none⟩ (.int .i64 (f.num : Int))).setCell ⟨g, i * 4 + 1, none⟩ (.string f.word)).setCell ⟨g, i * 4 + 2, none⟩ (.int .i64 (f.next : Int))).setCell ⟨g, i * 4 + 3, none⟩ (.bool f.there)) := ⟨rfl, rfl, rfl, by simp, fun k _ hne => by rw [set_other hne, set_other hne, set_other hne, set_other hne]⟩
  obtain ⟨hgB, hgl, D, hD⟩ := own_block h.trow (g := g) rfl
  have hgs : sb ≠ g := fun e => by
    rw [← e] at hD
    exact absurd (cells_ty h.blk hD) (by decide)
  have hrow := own_store (y := .bool f.there) (own_store (y := .int .i64 (f.next : Int)) (own_store (y := .string f.word) (own_store (y := .int .i64 (f.num : Int)) h.trow (i := i * 4) (by omega)) (i := i * 4 + 1) (by omega)) (i := i * 4 + 2) (by omega)) (i := i * 4 + 3) (by omega)
  rw [foC_set f hi] at hrow
  refine ⟨off hl hT (fun k _ e => by rw [e]; exact ⟨h.rt g rfl, notN' hD (by decide)⟩), ⟨(hT.block sb (Array.getElem?_eq_some_iff.1 h.blk).1 hgs).trans h.blk, own_same h.row (fun k hk => hT.block k (own_block h.row hk).2.1 (fun e => ?_)), by rw [List.length_set]; exact hrow, h.rs, h.ra, h.rt, h.ge⟩, below_tch (Below.refl B w) hT (fun k e => by rw [e]; exact hgB) hB⟩
  obtain ⟨_, _, D', hD'⟩ := own_block h.row hk
  rw [e] at hD'
  exact absurd (cells_ty hD hD') (by decide)
theorem getD_setF (l : List Fo) {i : Nat} (f : Fo) (j : Nat) (hi : i < l.length) : (l.set i f).getD j fo0 = if j = i then f else l.getD j fo0 := by
  by_cases e : j = i
  · subst e
    rw [if_pos rfl]
    simp [List.getD, hi]
  · rw [if_neg e]
    simp [List.getD, Ne.symm e]
/-- A tail goes on. -/
theorem TlR.goOn {L : Lg} {tls : List Fo} {n i t : Nat} {y : ByteArray} (h : TlR L tls n) (hi : i < tls.length) (hy : (tls.getD i fo0).word = y) (ht : t ≤ n) (_hth : (tls.getD i fo0).there = true) : TlR { L with tls := fun z => if z = (i : Int) then some (y, t) else L.tls z } (tls.set i ⟨i, y, t, true⟩) n := by
  refine ⟨fun j hj => ?_, fun j hj => ?_, fun x hx => ?_, by rw [List.length_set]; exact h.subs, h.few⟩
  · rw [List.length_set] at hj
    rw [getD_setF tls _ j hi]
    by_cases e : j = i
    · rw [if_pos e]
      exact ⟨e.symm, by rw [← hy]; exact (h.num i hi).2.1, ht⟩
    · rw [if_neg e]; exact h.num j hj
  · rw [List.length_set] at hj
    rw [getD_setF tls _ j hi]
    simp only
    by_cases e : j = i
    · rw [if_pos e, if_pos (by omega)]
      rfl
    · rw [if_neg e, if_neg (by omega)]; exact h.at_ j hj
  · rw [List.length_set] at hx
    simp only
    rw [if_neg (by omega)]
    exact h.out x hx
/-- In the midst of the loop of polls. -/
structure LpI (w3 wr : World) (nb i : Nat) (y : ByteArray) (all : List Ent) (p b t : Nat) : Prop where
  tch : Tch (fun k => k = nb) w3 wr
  blk : wr.heap[nb]? = some (Obj.cells #[.int .i64 (i : Int), .string y, .int .i64 (t : Int), .bool true] 60 (0, 0))
  pi : PI (hsW y) all p b t
theorem LpI.below {w3 wr w' : World} {nb i p b t : Nat} {y : ByteArray} {all : List Ent} (h : LpI w3 wr nb i y all p b t) (hb : Below wr.heap.size wr w') : LpI w3 w' nb i y all p b t :=
  ⟨h.tch.trans (tch_below (S := fun k => k = nb) hb) (fun _ _ q => q), (hb.block nb (Array.getElem?_eq_some_iff.1 h.blk).1).trans h.blk, h.pi⟩
theorem LpI.next {w3 wr : World} {nb i p b t : Nat} {y : ByteArray} {all : List Ent} (h : LpI w3 wr nb i y all p b t) (ht : t < all.length) (hk : tkn (hsW y) all p t < b) : LpI w3 (wr.setCell ⟨nb, 2, none⟩ (.int .i64 ((t : Int) + 1))) nb i y all p b (t + 1) := by
  refine ⟨⟨h.tch.os, h.tch.tape, h.tch.output, by have := h.tch.size; simpa using this, fun k hk hne => by rw [set_other hne]; exact h.tch.block k hk hne⟩, ?_, h.pi.next ht hk⟩
  have := setCell_blk (j := 2) (v := .int .i64 ((t : Int) + 1)) h.blk
  rw [Int.natCast_add]
  exact this
end Go.Proofs.YtkncboinfcnklabGreatDoor.Kp
