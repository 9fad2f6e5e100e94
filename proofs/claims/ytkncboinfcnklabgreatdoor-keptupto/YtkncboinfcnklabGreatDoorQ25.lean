import Derived.Test.YtkncboinfcnklabGreatDoorQ24
import Derived.Test.YtkncboinfcnklabGreatDoorQ11
import Derived.Test.YtkncboinfcnklabGreatDoorQ21
import Derived.Test.YtkncboinfcnklabGreatDoorQ23
import Derived.Test.YtkncboinfcnklabGreatDoorQ19
namespace Go.Proofs.YtkncboinfcnklabGreatDoor
open Go.RowKit Go.Deep Go.Shelf Go.Proofs.YtkncboinfcnklabGreatDoor.Mth

/-- What an Open that is stopped leaves of the files. -/
def opN (fs : List Fl) (R : ByteArray) (l : Nat) : List Fl := if l = 4 then jf R R.size else rwN fs R l

set_option maxRecDepth 100000 in
set_option maxHeartbeats 4000000 in
theorem open_no {w : World} {B b d : Nat} {fs : List Fl} {l : Nat} {fv : Value} (h : St 82 87 w B b fs (l : Int) fv) (hp : Ptr 104 w d b) (hB : B ≤ w.heap.size) (hl : l ≤ 4) (hfs : JD fs) (hlen : fs.length ≤ 1000) {dt : ByteArray} (hD : jDat fs dt) {rs : List Rc} {t : List Int} (hr : tb dt = rcL rs ++ t) (ht : Torn t) (hok : ∀ x ∈ rs, x.ok) (hn : rs.length ≤ 1000000) (hrs : dt.size ≤ 1099511627776) (hc : (rcP rs).1 ≤ 1000000000000) :
    Calls Tryz.prog 35 #[ptrV d] w fun e w' => e = .returned (.tuple #[.pointer none, .slice none 0 0, .bool false]) ∧ ∃ fv' R, tb R = rcL rs ∧ Stp 82 87 B b w w' fv (opN fs R l) 0 fv' := by
  have hlr : (rcL rs).length ≤ dt.size := by
    have := tb_len dt
    rw [hr, List.length_append] at this
    omega
  obtain ⟨R, hR⟩ : ∃ R, R = strOfNums (rcL rs) := ⟨_, rfl⟩
  have htR : tb R = rcL rs := by
    rw [hR]
    refine tb_of (fun x hx => tb_bts dt x ?_)
    rw [hr]
    exact List.mem_append_left _ hx
  have hRs : R.size ≤ 1099511627776 := by
    have := tb_len R
    rw [htR] at this
    omega
  have SL : ∀ W, (Instr.slice 9 (.string dt) none (some (.int .i64 ((rcL rs).length : Int))) none).run Tryz.prog W = .ok (.string R) W := fun W => by
    have h1 := slice_hi dt (rcL rs).length hlr W
    rw [hr, List.take_left, ← hR] at h1
    exact h1
  have CR : Hid (Calls Tryz.prog 57 #[ptrV d, .string jnm] w fun e w' => e = .returned (.string dt) ∧ w' = w) := by
    refine (read_any h hp jnm).mono ?_
    rintro e w' ⟨r, hr', rfl, hw⟩
    exact ⟨by rw [hD r hr'], hw⟩
  have CJ := hide (readJ_any dt rs t hr ht hok hn hrs hc w)
  have CW : Hid (∀ W, Below w.heap.size w W → Calls Tryz.prog 59 #[ptrV d, .string R] W fun e w' => e = .returned (.bool (decide (l = 4))) ∧ ∃ fv', Stp 82 87 B b w w' fv (opN fs R l) 0 fv' ∧ Ptr 104 w' d b) := by
    intro W hb
    have up : ∀ {w' : World} {fs' : List Fl} {fv' : Value}, Stp 82 87 B b W w' fv fs' 0 fv' → Stp 82 87 B b w w' fv fs' 0 fv' := fun hs => ⟨hs.st, ⟨hs.tch.os.trans hb.os, hs.tch.tape.trans hb.tape, hs.tch.output.trans hb.output, Nat.le_trans hb.size hs.tch.size, fun k hk hne => (hs.tch.block k (Nat.lt_of_lt_of_le hk hb.size) hne).trans (hb.block k hk)⟩, fun g hg => by
      rcases hs.new g hg with q | q
      · exact Or.inl q
      · exact Or.inr (Nat.le_trans hb.size q)⟩
    by_cases q : l = 4
    · subst q
      refine (rewrite_ok (h.below hb) (hp.below hb) (Nat.le_trans hB hb.size) (by omega) (by omega) hfs hlen R hRs).mono ?_
      rintro e w' ⟨rfl, fv', hs⟩
      exact ⟨rfl, fv', up hs, (hp.below hb).keep (h.below hb) hs.tch (by decide) (by decide)⟩
    · refine (rewrite_no (h.below hb) (hp.below hb) (Nat.le_trans hB hb.size) (by omega) hlen R hRs).mono ?_
      rintro e w' ⟨rfl, fv', hs⟩
      refine ⟨by rw [decide_eq_false q], fv', ?_, (hp.below hb).keep (h.below hb) hs.tch (by decide) (by decide)⟩
      unfold opN
      rw [if_neg q]
      exact up hs
  have HTR := hide htR
  clear h hp hD hr ht hok htR hlr hfs hlen hrs hR
  unfold jnm at CR
  generalize decide (l = 4) = bl at *
  go_enter Tryz.func35, Tryz.ntmps35
  go_wp2_with (first
    | (go_at_call 57; refine CR.out.mono ?_; rintro e w' ⟨rfl, hw'⟩; rw [hw']; clear hw' w')
    | (go_at_call 58; refine CJ.out.mono ?_; rintro e w2 ⟨v, rfl, ho2, hb2⟩; have HB2 := hide hb2; obtain ⟨va, vc, rfl, _, _⟩ := own_slice ho2; clear hb2 ho2))
  have hb3 := below_allocG w2 (Obj.cells #[.int .i64 ((rcP rs).1 : Int), .slice va (rcP rs).2.length vc] 135)
  have CW3 := hide (CW.out _ (HB2.out.trans (hb3.mono HB2.out.size)))
  clear hb3 CW CR CJ
  generalize w2.alloc (Obj.cells #[.int .i64 ((rcP rs).1 : Int), .slice va (rcP rs).2.length vc] 135) = w3 at *
  refine CW3.out.mono ?_
  rintro e w4 ⟨rfl, fv4, hs4, hp4⟩
  have CS := hide (stopped_any hs4.st hp4)
  rw [show ((0 : Int) == 0) = true from rfl] at CS
  have HS4 := hide hs4
  clear hs4 hp4 CW3
  cases bl
  · go_wp2_with (first | (go_at_call 60; refine CS.out.mono ?_; rintro e w' ⟨rfl, hw'⟩; rw [hw']; clear hw' w'))
    go_ret3
    exact ⟨rfl, fv4, R, HTR.out, HS4.out⟩
  · go_wp2_with (first | (go_at_call 60; refine CS.out.mono ?_; rintro e w' ⟨rfl, hw'⟩; rw [hw']; clear hw' w'))
    go_ret3
    exact ⟨rfl, fv4, R, HTR.out, HS4.out⟩
end Go.Proofs.YtkncboinfcnklabGreatDoor

namespace Go.Proofs.YtkncboinfcnklabGreatDoor
open Go.RowKit Go.Deep Go.Shelf Go.Proofs.YtkncboinfcnklabGreatDoor.Mth

set_option maxRecDepth 100000 in
set_option maxHeartbeats 4000000 in
/-- The disk stops behind the bytes: they are there, and not safe. -/
theorem jWrite_no1 {w : World} {B jb db sb : Nat} {dt : ByteArray} {sf : Nat} {fv : Value} {clock count : Nat} (h : JAt w B jb db sb (jf dt sf) 1 fv clock count) (hB : B ≤ w.heap.size) (k : Int) (k0 : 0 ≤ k) (k1 : k < 256) (s : ByteArray) (hs : s.size ≤ 255) (hd : dt.size ≤ 1099511627776) :
    Calls Tryz.prog 90 #[.pointer (some ⟨jb, 0, none⟩), .int .u8 k, .string s] w fun e w' => e = .returned (.bool false) ∧ ∃ fv', JStp w w' B jb db sb fv (jf (dt ++ recB k s) sf) 0 fv' clock count := by
  have hat : At (jf dt sf) jnm 0 := Or.inr ⟨0, by simp [jf], rfl, rfl, fun j hj => absurd hj (Nat.not_lt_zero _)⟩
  have CR : Hid (∀ W, Calls Tryz.prog 111 #[.int .u8 k, .string s] W fun e w' => e = .returned (.string (recB k s)) ∧ Below W.heap.size W w') := fun W => record_any k k0 k1 s hs W
  have hrs := recB_size k s
  have hfl : (flAt (jf dt sf) 0).data = dt := rfl
  have CA : Hid (∀ W, Below w.heap.size w W → Calls Tryz.prog 84 #[.pointer (some ⟨db, 0, none⟩), .string jnm, .string (recB k s)] W fun e w' => e = .returned (.bool true) ∧ ∃ fv', JStp w w' B jb db sb fv (jf (dt ++ recB k s) sf) 0 fv' clock count ∧ w'.heap[jb]? = some (Obj.cells #[.pointer (some ⟨db, 0, none⟩), .int .i64 (clock : Int), .int .i64 (count : Int)] 140 (0, 0))) := by
    intro W hW
    have hj := h.below hW
    refine (apiAppend_yes hj.st hj.ptr (Nat.le_trans hB hW.size) (by omega) (by omega) (by omega) (by simp [jf]) jnm (recB k s) 0 hat (by rw [hfl, hrs]; omega)).mono ?_
    rintro e w' ⟨rfl, fv', hs'⟩
    have hs2 : Stp 82 87 B sb W w' fv (jf (dt ++ recB k s) sf) 0 fv' := hs'
    have := JStp.pre hW (hj.disk hs2)
    exact ⟨rfl, fv', this, this.j.blk⟩
  have CS : Hid (∀ W fv', JStp w W B jb db sb fv (jf (dt ++ recB k s) sf) 0 fv' clock count → Calls Tryz.prog 85 #[.pointer (some ⟨db, 0, none⟩), .string jnm] W fun e w' => e = .returned (.bool false) ∧ JStp w w' B jb db sb fv (jf (dt ++ recB k s) sf) 0 fv' clock count) := by
    intro W fv1 hj
    refine (apiSync_no hj.j.st hj.j.ptr jnm).mono ?_
    rintro e w' ⟨rfl, hs'⟩
    exact ⟨rfl, hj.trans (hj.j.disk hs')⟩
  obtain ⟨c0, _⟩ := cell_of (j := 0) (u := .pointer (some ⟨db, 0, none⟩)) h.blk rfl
  clear hat hd hrs hfl h
  generalize recB k s = rb at *
  generalize dt ++ rb = dd at *
  unfold jnm at CA CS
  go_enter Tryz.func90, Tryz.ntmps90
  go_wp2_with fail
  go_region_with (first
    | (go_at_call 111; refine (CR.out _).mono ?_; rintro e w2 ⟨rfl, hb2⟩; have HB2 : Hid (Below w.heap.size w w2) := below_drew hb2; have c2 : w2.cell? ⟨jb, 0, none⟩ = some (.pointer (some ⟨db, 0, none⟩)) := (HB2.out.cell (p := ⟨jb, 0, none⟩) (World.block_lt_of_cell? _ _ c0)).trans c0; clear hb2)
    | (go_at_call 84; refine (CA.out _ HB2.out).mono ?_; rintro e w3 ⟨rfl, fv3, hj3, hb3⟩; have HJ3 := hide hj3; have c3 := (cell_of (j := 0) (u := .pointer (some ⟨db, 0, none⟩)) hb3 rfl).1; clear hj3 hb3)
    | (go_at_call 85; refine (CS.out _ _ HJ3.out).mono ?_; rintro e w4 ⟨rfl, hj4⟩; have HJ4 := hide hj4; clear hj4))
  all_goals (go_wp2; go_ret; exact ⟨rfl, fv3, HJ4.out⟩)
end Go.Proofs.YtkncboinfcnklabGreatDoor

namespace Go.Proofs.YtkncboinfcnklabGreatDoor
open Go.RowKit Go.Deep Go.Shelf Go.Proofs.YtkncboinfcnklabGreatDoor.Mth

set_option maxHeartbeats 1000000 in
theorem step_stopped {w : World} {B b : Nat} {fs : List Fl} {fv : Value} (h : St 82 87 w B b fs 0 fv) :
    Calls Tryz.prog 103 #[.pointer (some ⟨b, 0, none⟩)] w fun e w' => e = .returned (.bool false) ∧ w' = w := by
  obtain ⟨c1, f1⟩ := cell_of (j := 1) (u := .int .i64 0) h.blk rfl
  clear h
  go_enter Tryz.func103, Tryz.ntmps103
  go_wp2_with fail
  go_ret
  exact ⟨rfl, rfl⟩
set_option maxHeartbeats 1000000 in
theorem append_stopped {w : World} {B b d : Nat} {fs : List Fl} {fv : Value} (h : St 82 87 w B b fs 0 fv) (hp : Ptr 104 w d b) (x t : ByteArray) :
    Calls Tryz.prog 84 #[.pointer (some ⟨d, 0, none⟩), .string x, .string t] w fun e w' => e = .returned (.bool false) ∧ Below w.heap.size w w' := by
  have CS := hide (step_stopped h)
  obtain ⟨p0, _⟩ := cell_of (j := 0) (u := .pointer (some ⟨b, 0, none⟩)) hp rfl
  clear h hp
  go_enter Tryz.func84, Tryz.ntmps84
  go_wp2_with (first | (go_at_call 103; refine CS.out.mono ?_; rintro e w1 ⟨rfl, hw1⟩; rw [hw1]; clear hw1 w1))
  go_ret
  exact ⟨rfl, Below.refl _ _⟩

set_option maxRecDepth 100000 in
set_option maxHeartbeats 4000000 in
/-- The disk is stopped: nothing happens. -/
theorem jWrite_no0 {w : World} {B jb db sb : Nat} {fs : List Fl} {fv : Value} {clock count : Nat} (h : JAt w B jb db sb fs 0 fv clock count) (k : Int) (k0 : 0 ≤ k) (k1 : k < 256) (s : ByteArray) (hs : s.size ≤ 255) :
    Calls Tryz.prog 90 #[.pointer (some ⟨jb, 0, none⟩), .int .u8 k, .string s] w fun e w' => e = .returned (.bool false) ∧ Below w.heap.size w w' := by
  have CR := hide (fun d os => Calls.regrown_of (w := w) (d := d) (os := os) (record_any k k0 k1 s hs (Sort.grow (redrawn w d) os)))
  have CA := hide (fun d os => Calls.regrown_of (w := w) (d := d) (os := os) (append_stopped (h.st.below (below_regrown w d os)) (h.ptr.below (below_regrown w d os)) jnm (recB k s)))
  obtain ⟨c0, _⟩ := cell_of (j := 0) (u := .pointer (some ⟨db, 0, none⟩)) h.blk rfl
  have d0 := cell_regrown c0
  clear h
  generalize recB k s = rb at *
  unfold jnm at CA
  go_enter Tryz.func90, Tryz.ntmps90
  go_wp2_with fail
  refine wp_region_quiet_below (by kernel_rfl) (by kernel_rfl) ?_
  repeat (go_big_quiet_step (first | (go_at_call 111; exact CR.out _ _) | (go_at_call 84; exact CA.out _ _)))
  refine wpQuiet_nil ?_
  intro _ hw'
  obtain ⟨⟨dq, osq⟩, hw''⟩ := hw'
  subst hw''
  have HB := hide (below_regrown w dq osq)
  generalize Sort.grow (redrawn w dq) osq = w3 at *
  go_wp2_with fail
  go_ret
  exact ⟨rfl, HB.out⟩
end Go.Proofs.YtkncboinfcnklabGreatDoor

namespace Go.Proofs.YtkncboinfcnklabGreatDoor
open Go.RowKit Go.Deep Go.Shelf Go.Proofs.YtkncboinfcnklabGreatDoor.Mth

set_option maxRecDepth 100000 in
set_option maxHeartbeats 2000000 in
theorem jTick_down {w : World} {jb : Nat} (n : Nat) (hn : n ≤ 1000000) (ht : Tab10 w) (Q : World → Prop) (hw : ∀ W, Below w.heap.size w W → Calls Tryz.prog 90 #[.pointer (some ⟨jb, 0, none⟩), .int .u8 1, .string (itoaB (n : Int))] W fun e w' => e = .returned (.bool false) ∧ Q w') :
    Calls Tryz.prog 71 #[.pointer (some ⟨jb, 0, none⟩), .int .i64 (n : Int)] w fun e w' => e = .returned (.bool false) ∧ Q w' := by
  have CI := hide (itoa_any (n : Int) (by omega) (by omega) w ht)
  have CW := hide hw
  clear hw
  generalize itoaB (n : Int) = ib at *
  go_enter Tryz.func71, Tryz.ntmps71
  go_wp2_with (first
    | (go_at_call 94; refine CI.out.mono ?_; rintro e w1 ⟨rfl, hb1⟩; have CW1 := hide (CW.out w1 hb1); clear hb1)
    | (go_at_call 90; refine CW1.out.mono ?_; rintro e w2 ⟨rfl, hq⟩; have HQ := hide hq; clear hq))
  go_ret
  exact ⟨rfl, HQ.out⟩
end Go.Proofs.YtkncboinfcnklabGreatDoor

namespace Go.Proofs.YtkncboinfcnklabGreatDoor.Kq
open Go.RowKit Go.Deep Go.Shelf Go.Proofs.YtkncboinfcnklabGreatDoor.Mth Go.Proofs.YtkncboinfcnklabGreatDoor.Kp

/-- A follower: its number, its word, the place of the first entry that it must tell next; is it there? -/
structure Fo where
  num : Nat
  word : ByteArray
  next : Nat
  there : Bool
def fo0 : Fo := ⟨0, ⟨#[]⟩, 0, false⟩
def foC (f : Fo) : List Value := [.int .i64 (f.num : Int), .string f.word, .int .i64 (f.next : Int), .bool f.there]
/-- What may be there besides: the hand's block and its disk's; the slice of texts; the text, or the ticks. -/
structure Xt where
  h : Nat
  sb : Nat
  tv : Value
  tx : List ByteArray
  tk : Nat
/-- How many records may be there besides. -/
def Xt.pnd (X : Xt) : Nat := X.tx.length + if X.tk = 0 then 0 else 1
/-- The disk under a log: its records tell the clock and all entries; behind them one more may stand that is not safe. -/
structure Dk (X : Xt) (G : Gh) (M clock : Nat) (all : List Ent) : Prop where
  sb : G.sb = X.sb
  left : -1 ≤ G.left ∧ G.left ≤ 30
  rcd : ∃ rs : List Rc, (∀ x ∈ rs, x.ok) ∧ rs.length + X.pnd ≤ M ∧ rcP rs = (clock, all) ∧ G.sf = (rcL rs).length ∧ ∃ t, tb G.dt = rcL rs ++ t ∧ (t = [] ∨ (G.left = 0 ∧ ((∃ s, X.tx = [s] ∧ t = (Rc.lay s).l) ∨ (0 < X.tk ∧ t = (Rc.tick X.tk).l))))
  tx : X.tx = [] ∨ ∃ s, X.tx = [s] ∧ s.size ≤ 60 ∧ X.tk = 0
  tk : X.tk ≤ 1000 ∧ clock + X.tk ≤ 1000000000000
  idle : G.left ≠ 0 → X.tx = [] ∧ X.tk = 0
  nil : X.tx = [] → X.tv = .slice none 0 0
theorem Dk.mono {X : Xt} {G G' : Gh} {M M' clock : Nat} {all : List Ent} (h : Dk X G M clock all) (hM : M ≤ M') (h1 : G'.sb = G.sb) (h2 : G'.left = G.left) (h3 : G'.dt = G.dt) (h4 : G'.sf = G.sf) : Dk X G' M' clock all := by
  obtain ⟨rs, a, b, c⟩ := h.rcd
  exact ⟨h1.trans h.sb, by rw [h2]; exact h.left, ⟨rs, a, Nat.le_trans b hM, by rw [h3, h4, h2]; exact c⟩, h.tx, h.tk, by rw [h2]; exact h.idle, h.nil⟩
theorem rc_rec {r : Rc} (h : r.ok) : tb (recB r.k r.s) = r.l := by
  have := Rc.size h
  rw [tb_rec r.k (by cases r <;> simp [Rc.k]) (by cases r <;> simp [Rc.k]) r.s (by omega)]
  rfl
theorem Dk.put {X : Xt} {G G2 : Gh} {M clock : Nat} {all : List Ent} (h : Dk X G M clock all) (q0 : G.left ≠ 0) (r : Rc) (hr : r.ok) (g1 : G2.sb = G.sb) (g2 : G2.left = decL (decL G.left)) (g3 : G2.dt = G.dt ++ recB r.k r.s) (g4 : G2.sf = G2.dt.size) (hc : (rcStep (clock, all) r).1 ≤ 1000000000000) : Dk X G2 (M + 1) (rcStep (clock, all) r).1 (rcStep (clock, all) r).2 := by
  obtain ⟨rs, a, b, c, d, t, e, f⟩ := h.rcd
  have ht : t = [] := by
    rcases f with f | f
    · exact f
    · exact absurd f.1 q0
  subst ht
  have hx := h.idle q0
  have hl := h.left
  have hd1 : ∀ l : Int, -1 ≤ l → l ≤ 30 → -1 ≤ decL l ∧ decL l ≤ 30 := fun l _ _ => by unfold decL; split <;> omega
  have hd2 := hd1 _ (hd1 _ hl.1 hl.2).1 (hd1 _ hl.1 hl.2).2
  have e2 : tb G2.dt = rcL (rs ++ [r]) := by
    rw [g3, tb_append, e, List.append_nil, rc_rec hr, rcL_snoc]
  have hpn : X.pnd = 0 := by unfold Xt.pnd; rw [hx.1, hx.2]; rfl
  refine ⟨g1.trans h.sb, by rw [g2]; exact hd2, ⟨rs ++ [r], ?_, by rw [List.length_append, List.length_singleton]; omega, by rw [rcP_snoc, c], by rw [g4, ← e2, tb_len], [], by rw [List.append_nil]; exact e2, Or.inl rfl⟩, Or.inl hx.1, by rw [hx.2]; exact ⟨by omega, hc⟩, fun _ => hx, h.nil⟩
  intro x hx'
  rcases List.mem_append.1 hx' with q | q
  · exact a x q
  · rw [List.mem_singleton.1 q]; exact hr
/-- One that could not be made safe: X' names it. -/
theorem Dk.down {X X' : Xt} {G G2 : Gh} {M clock : Nat} {all : List Ent} (h : Dk X G M clock all) (h0 : X.tx = [] ∧ X.tk = 0) (r : Rc) (hr : r.ok) (g1 : G2.sb = G.sb) (g2 : G2.left = 0) (g3 : (G2.dt = G.dt ∧ G.left = 0) ∨ (G2.dt = G.dt ++ recB r.k r.s ∧ G.left = 1)) (g4 : G2.sf = G.sf) (x0 : X'.sb = X.sb) (x1 : (∃ s, r = .lay s ∧ X'.tx = [s] ∧ X'.tk = 0) ∨ (∃ n, r = .tick n ∧ X'.tx = [] ∧ X'.tv = .slice none 0 0 ∧ X'.tk = n ∧ 0 < n ∧ n ≤ 1000 ∧ clock + n ≤ 1000000000000)) : Dk X' G2 (M + 1) clock all := by
  obtain ⟨rs, a, b, c, d, t, e, f⟩ := h.rcd
  have ht : t = [] := by
    rcases f with f | ⟨_, ⟨s, f, _⟩ | f⟩
    · exact f
    · rw [h0.1] at f; cases f
    · omega
  subst ht
  rw [List.append_nil] at e
  have hc := h.tk.2
  have hpn : X'.pnd = 1 := by
    unfold Xt.pnd
    rcases x1 with ⟨s, rfl, x1, x2⟩ | ⟨n, rfl, x1, x2, x3, x4, x5⟩
    · rw [x1, x2]; rfl
    · rw [x1, x3, if_neg (by omega)]; rfl
  refine ⟨g1.trans (h.sb.trans x0.symm), by rw [g2]; omega, ⟨rs, a, by omega, c, g4.trans d, ?_⟩, ?_, ?_, fun q => absurd g2 q, ?_⟩
  · rcases g3 with ⟨g3, _⟩ | ⟨g3, _⟩
    · exact ⟨[], by rw [g3, List.append_nil]; exact e, Or.inl rfl⟩
    · refine ⟨r.l, by rw [g3, tb_append, e, rc_rec hr], Or.inr ⟨g2, ?_⟩⟩
      rcases x1 with ⟨s, rfl, x1, x2⟩ | ⟨n, rfl, x1, x2, x3, x4, x5⟩
      · exact Or.inl ⟨s, x1, rfl⟩
      · exact Or.inr ⟨by omega, by rw [x3]⟩
  · rcases x1 with ⟨s, rfl, x1, x2⟩ | ⟨n, rfl, x1, x2, x3, x4, x5⟩
    · exact Or.inr ⟨s, x1, hr, x2⟩
    · exact Or.inl x1
  · rcases x1 with ⟨s, rfl, x1, x2⟩ | ⟨n, rfl, x1, x2, x3, x4, x5⟩ <;> omega
  · intro q
    rcases x1 with ⟨s, rfl, x1, x2⟩ | ⟨n, rfl, x1, x2, x3, x4, x5⟩
    · rw [x1] at q; cases q
    · exact x2
/-- A shelf's cells. -/
def shC (lb : Nat) (hb : Xt) (L : Lg) (av tv : Value) : Array Value := #[ptrV lb, ptrV hb.h, .int .i64 (L.memory : Int), .int .i64 (L.fan : Int), .int .i64 (L.back : Int), .int .i64 (L.wks.length : Int), .int .i64 (L.keep : Int), .int .i64 (L.batch : Int), av, .int .i64 (L.clock : Int), hb.tv, .int .i64 (hb.tk : Int), tv, .bool true]
/-- What may be there, in memory. -/
structure XtM (w : World) (ρ : Nat → Nat) (B : Nat) (hb : Xt) : Prop where
  row : w.ownsRow B 9 1 hb.tv hb.tx.length (hb.tx.map Value.string)
  rx : ∀ g, some g = hb.tv.ownBlock → ρ g = 0
  hp : Ptr 85 w hb.h hb.sb
  rh : ρ hb.h = 0
  gh : B ≤ hb.h
theorem XtM.lt {w : World} {ρ : Nat → Nat} {B : Nat} {hb : Xt} (h : XtM w ρ B hb) {g : Nat} (hg : some g = hb.tv.ownBlock ∨ g = hb.h) : g < w.heap.size ∧ ρ g = 0 ∧ ∃ C t, w.heap[g]? = some (Obj.cells C t (0, 0)) ∧ (t = 9 ∨ t = 85) := by
  rcases hg with q | q
  · obtain ⟨_, h2, D, hD⟩ := own_block h.row q
    exact ⟨h2, h.rx g q, D, 9, hD, Or.inl rfl⟩
  · subst q
    exact ⟨(Array.getElem?_eq_some_iff.1 h.hp).1, h.rh, _, _, h.hp, Or.inr rfl⟩
theorem XtM.same {w w' : World} {ρ ρ' : Nat → Nat} {B : Nat} {hb : Xt} (h : XtM w ρ B hb) (hs : ∀ g, (some g = hb.tv.ownBlock ∨ g = hb.h) → w'.heap[g]? = w.heap[g]? ∧ ρ' g = 0) : XtM w' ρ' B hb :=
  ⟨own_same h.row (fun g hg => (hs g (Or.inl hg)).1), fun g hg => (hs g (Or.inl hg)).2, (hs hb.h (Or.inr rfl)).1.trans h.hp, (hs hb.h (Or.inr rfl)).2, h.gh⟩
theorem XtM.keep {w w' : World} {ρ ρ' : Nat → Nat} {B : Nat} {hb : Xt} (h : XtM w ρ B hb) (hs : LStp w w' ρ ρ') : XtM w' ρ' B hb :=
  h.same (fun g hg => ⟨hs.tch.block g (h.lt hg).1 (fun q => q.1 (h.lt hg).2.1), hs.old g (h.lt hg).1 (h.lt hg).2.1⟩)
theorem XtM.tch {w w' : World} {ρ : Nat → Nat} {B : Nat} {hb : Xt} (h : XtM w ρ B hb) {S : Nat → Prop} (ht : Tch S w w') (hS : ∀ k, S k → ∃ C t, w.heap[k]? = some (Obj.cells C t (0, 0)) ∧ t ≠ 9 ∧ t ≠ 85) : XtM w' ρ B hb :=
  h.same (fun g hg => ⟨ht.block g (h.lt hg).1 (fun q => by
    obtain ⟨C, t, h1, h2, h3⟩ := hS g q
    obtain ⟨_, _, C', t', h4, h5⟩ := h.lt hg
    have := cells_ty h1 h4
    subst this
    rcases h5 with h5 | h5
    · exact h2 h5
    · exact h3 h5), (h.lt hg).2.1⟩)
/-- A shelf in memory, but for its log. -/
structure ShM (w : World) (ρ : Nat → Nat) (B sb : Nat) (hb : Xt) (C : Array Value) (all : List Ent) (tls : List Fo) (av tv : Value) : Prop where
  blk : w.heap[sb]? = some (Obj.cells C 37 (0, 0))
  row : w.ownsRow B 49 3 av all.length (all.flatMap eC)
  trow : w.ownsRow B 60 4 tv tls.length (tls.flatMap foC)
  rs : ρ sb = 0
  ra : ∀ g, some g = av.ownBlock → ρ g = 0
  rt : ∀ g, some g = tv.ownBlock → ρ g = 0
  ge : B ≤ sb
  x : XtM w ρ B hb
theorem ShM.keep {w w' : World} {ρ ρ' : Nat → Nat} {B sb : Nat} {hb : Xt} {C : Array Value} {all : List Ent} {tls : List Fo} {av tv : Value} (h : ShM w ρ B sb hb C all tls av tv) (hs : LStp w w' ρ ρ') : ShM w' ρ' B sb hb C all tls av tv := by
  have hsb := (Array.getElem?_eq_some_iff.1 h.blk).1
  exact ⟨(hs.tch.block sb hsb (fun q => q.1 h.rs)).trans h.blk, own_same h.row (fun g hg => hs.tch.block g (own_block h.row hg).2.1 (fun q => q.1 (h.ra g hg))), own_same h.trow (fun g hg => hs.tch.block g (own_block h.trow hg).2.1 (fun q => q.1 (h.rt g hg))), hs.old sb hsb h.rs, fun g hg => hs.old g (own_block h.row hg).2.1 (h.ra g hg), fun g hg => hs.old g (own_block h.trow hg).2.1 (h.rt g hg), h.ge, h.x.keep hs⟩
theorem ShM.below {w w' : World} {ρ : Nat → Nat} {B sb : Nat} {hb : Xt} {C : Array Value} {all : List Ent} {tls : List Fo} {av tv : Value} (h : ShM w ρ B sb hb C all tls av tv) (hb' : Below w.heap.size w w') : ShM w' ρ B sb hb C all tls av tv :=
  h.keep ⟨tch_below hb', fun _ _ q => q⟩
/-- The log does not notice what is not its own. -/
theorem off {w w' : World} {ρ : Nat → Nat} {B N lb : Nat} {G : Gh} {L : Lg} (h : LogAt w ρ B N lb G L) {S : Nat → Prop} (ht : Tch S w w') (hS : ∀ k, k < w.heap.size → S k → ρ k = 0 ∧ ¬ isN w k) : LogAt w' ρ B N lb G L :=
  h.same (fun g hg => by
    have hlt : g < w.heap.size := by
      rcases hg with q | q
      · exact (h.x.lt g q).1
      · exact isN_lt q
    refine ht.block g hlt (fun s => ?_)
    obtain ⟨s1, s2⟩ := hS g hlt s
    rcases hg with q | q
    · exact q s1
    · exact s2 q) ht.size
theorem notN' {w : World} {k : Nat} {C : Array Value} {t : TypeId} {fr : Nat × Nat} (h : w.heap[k]? = some (Obj.cells C t fr)) (ht : t ≠ 172) : ¬ isN w k := fun ⟨_C', _fr', q⟩ => ht (cells_ty h q)
/-- A field of the shelf is set. -/
theorem ShM.set {w : World} {ρ : Nat → Nat} {B N lb sb : Nat} {hb : Xt} {G : Gh} {L : Lg} {C : Array Value} {all : List Ent} {tls : List Fo} {av tv : Value} (hl : LogAt w ρ B N lb G L) (h : ShM w ρ B sb hb C all tls av tv) (j : Nat) (v : Value) :
    LogAt (w.setCell ⟨sb, j, none⟩ v) ρ B N lb G L ∧ ShM (w.setCell ⟨sb, j, none⟩ v) ρ B sb hb (C.setIfInBounds j v) all tls av tv ∧ (B ≤ w.heap.size → Below B w (w.setCell ⟨sb, j, none⟩ v)) := by
  have hT : Tch (fun k => k = sb) w (w.setCell ⟨sb, j, none⟩ v) := ⟨rfl, rfl, rfl, by simp, fun k _ hne => set_other hne⟩
  refine ⟨off hl hT (fun k _ e => by rw [e]; exact ⟨h.rs, notN' h.blk (by decide)⟩), ⟨setCell_blk h.blk, own_set_other h.row h.blk (by decide), own_set_other h.trow h.blk (by decide), h.rs, h.ra, h.rt, h.ge, h.x.tch hT (fun k e => by rw [e]; exact ⟨_, _, h.blk, by decide, by decide⟩)⟩, fun hB => below_tch (Below.refl B w) hT (fun k e => by rw [e]; exact h.ge) hB⟩
/-- An entry more. -/
theorem ShM.more {w W5 : World} {ρ : Nat → Nat} {B N lb sb : Nat} {hb : Xt} {G : Gh} {L : Lg} {C : Array Value} {all : List Ent} {tls : List Fo} {av tv v5 : Value} {e : Ent} {o : Obj} (hl : LogAt w ρ B N lb G L) (h : ShM w ρ B sb hb C all tls av tv) (hB : B ≤ w.heap.size)
    (o5 : W5.ownsRow B 49 3 v5 (all.length + 1) (all.flatMap eC ++ eC e)) (g6 : (w.alloc o).grownBy W5 av.ownBlock) (n5 : v5.ownBlock = av.ownBlock ∨ v5.ownBlock = some (w.alloc o).heap.size) :
    W5.heap[sb]? = some (Obj.cells C 37 (0, 0)) ∧ LogAt (W5.setCell ⟨sb, 8, none⟩ v5) ρ B N lb G L ∧ ShM (W5.setCell ⟨sb, 8, none⟩ v5) ρ B sb hb (C.setIfInBounds 8 v5) (all ++ [e]) tls v5 tv ∧ Below B w (W5.setCell ⟨sb, 8, none⟩ v5) := by
  have hsb := (Array.getElem?_eq_some_iff.1 h.blk).1
  have hsz5 : w.heap.size ≤ W5.heap.size := by have := g6.size; simp at this; omega
  have hfar : ∀ g, g < w.heap.size → some g ≠ av.ownBlock → W5.heap[g]? = w.heap[g]? := fun g hg hne => by
    rw [g6.block g (by simp; omega) hne, Mth.hAO w o (r := g) hg]
  have hsbv : some sb ≠ av.ownBlock := fun q => by
    obtain ⟨_, _, D, hD⟩ := own_block h.row q
    exact absurd (cells_ty h.blk hD) (by decide)
  have hblk5 := (hfar sb hsb hsbv).trans h.blk
  have hT : Tch (fun k => some k = av.ownBlock) w W5 := ⟨g6.os, g6.tape, g6.output, hsz5, fun k hk hne => hfar k hk hne⟩
  have hl5 : LogAt W5 ρ B N lb G L := off hl hT (fun k _ q => ⟨h.ra k q, by
    obtain ⟨_, _, D, hD⟩ := own_block h.row q
    exact notN' hD (by decide)⟩)
  have hm5 : ShM W5 ρ B sb hb C (all ++ [e]) tls v5 tv := by
    refine ⟨hblk5, by rw [List.length_append, List.flatMap_append]; simpa using o5, own_same h.trow (fun g hg => hfar g (own_block h.trow hg).2.1 (fun q => ?_)), h.rs, fun g hg => ?_, h.rt, h.ge, h.x.tch hT (fun k q => by obtain ⟨_, _, D, hD⟩ := own_block h.row q; exact ⟨_, _, hD, by decide, by decide⟩)⟩
    · obtain ⟨_, _, D, hD⟩ := own_block h.trow hg
      obtain ⟨_, _, D', hD'⟩ := own_block h.row q
      exact absurd (cells_ty hD hD') (by decide)
    · rcases n5 with q | q
      · rw [q] at hg; exact h.ra g hg
      · rw [q] at hg
        injection hg with hg
        exact hl.free (by rw [hg]; simp)
  obtain ⟨a1, a2, a3⟩ := ShM.set hl5 hm5 8 v5
  have hB5 : Below B w W5 := below_tch (Below.refl B w) hT (fun k q => (own_block h.row q).1) hB
  exact ⟨hblk5, a1, a2, hB5.trans (a3 (Nat.le_trans hB hsz5))⟩

/-- The followers, and the tails of the log. -/
structure TlR (L : Lg) (tls : List Fo) (n : Nat) : Prop where
  num : ∀ i, i < tls.length → (tls.getD i fo0).num = i ∧ (tls.getD i fo0).word ∈ wds ∧ (tls.getD i fo0).next ≤ n
  at_ : ∀ i, i < tls.length → L.tls (i : Int) = if (tls.getD i fo0).there then some ((tls.getD i fo0).word, (tls.getD i fo0).next) else none
  out : ∀ x : Int, (x < 0 ∨ (tls.length : Int) ≤ x) → L.tls x = none
  subs : L.subs = tls.length
  few : L.tn ≤ 4
theorem TlR.mono {L L' : Lg} {tls : List Fo} {n n' : Nat} (h : TlR L tls n) (hn : n ≤ n') (h1 : L'.tls = L.tls) (h2 : L'.subs = L.subs) (h3 : L'.tn = L.tn) : TlR L' tls n' :=
  ⟨fun i hi => ⟨(h.num i hi).1, (h.num i hi).2.1, Nat.le_trans (h.num i hi).2.2 hn⟩, fun i hi => by rw [h1]; exact h.at_ i hi, fun x hx => by rw [h1]; exact h.out x hx, by rw [h2]; exact h.subs, by rw [h3]; exact h.few⟩
/-- A shelf. -/
structure Sh (w : World) (ρ : Nat → Nat) (B N M lb sb : Nat) (hb : Xt) (G : Gh) (L : Lg) (all : List Ent) (tls : List Fo) (av tv : Value) : Prop where
  log : LogAt w ρ B N lb G L
  mem : ShM w ρ B sb hb (shC lb hb L av tv) all tls av tv
  inv : Inv L all
  dk : Dk hb G M L.clock all
  bud : G.dt.size ≤ 64 * M ∧ all.length ≤ M ∧ tls.length ≤ M
  tl : TlR L tls all.length
/-- What a call on a shelf leaves. -/
structure ShX (w w' : World) (B N M lb sb : Nat) (hb : Xt) (L : Lg) (all : List Ent) (tls : List Fo) : Prop where
  ex : ∃ ρ G av tv, Sh w' ρ B N M lb sb hb G L all tls av tv
  bel : Below B w w'
theorem Sh.below {w w' : World} {ρ : Nat → Nat} {B N M lb sb : Nat} {hb : Xt} {G : Gh} {L : Lg} {all : List Ent} {tls : List Fo} {av tv : Value} (h : Sh w ρ B N M lb sb hb G L all tls av tv) (hb' : Below w.heap.size w w') : Sh w' ρ B N M lb sb hb G L all tls av tv :=
  ⟨h.log.below hb', h.mem.below hb', h.inv, h.dk, h.bud, h.tl⟩
theorem Sh.shx {w w' : World} {ρ : Nat → Nat} {B N M lb sb : Nat} {hb : Xt} {G : Gh} {L : Lg} {all : List Ent} {tls : List Fo} {av tv : Value} (h : Sh w ρ B N M lb sb hb G L all tls av tv) (hB : B ≤ w.heap.size) (hb' : Below w.heap.size w w') : ShX w w' B N M lb sb hb L all tls :=
  ⟨⟨ρ, G, av, tv, h.below hb'⟩, ⟨hb'.os, hb'.tape, hb'.output, hb'.size, fun k hk => hb'.block k (by omega)⟩⟩
theorem Sh.mono {w : World} {ρ : Nat → Nat} {B N M M' lb sb : Nat} {hb : Xt} {G : Gh} {L : Lg} {all : List Ent} {tls : List Fo} {av tv : Value} (h : Sh w ρ B N M lb sb hb G L all tls av tv) (hM : M ≤ M') : Sh w ρ B N M' lb sb hb G L all tls av tv :=
  ⟨h.log, h.mem, h.inv, h.dk.mono hM rfl rfl rfl rfl, by have := h.bud; omega, h.tl⟩
theorem shC_app (lb : Nat) (hb : Xt) (L : Lg) (s : ByteArray) (av tv : Value) : shC lb hb (L.app s) av tv = shC lb hb L av tv := by
  unfold shC Lg.app Lg.more
  by_cases hf : L.memory ≤ L.mem.length
  · rw [if_pos hf]
    simp [Lg.roll, layTo_len]
  · rw [if_neg hf]
end Go.Proofs.YtkncboinfcnklabGreatDoor.Kq

namespace Go.Proofs.YtkncboinfcnklabGreatDoor
open Go.RowKit Go.Deep Go.Proofs.YtkncboinfcnklabGreatDoor.Mth

/-! ### what a crash leaves of a file -/
def crN (keep : Int) (f : Fl) : Nat := if keep < 0 then f.safe else if keep < (f.data.size : Int) - f.safe then f.safe + keep.toNat else f.data.size
def cut (s : ByteArray) (n : Nat) : ByteArray := s.extract 0 n
def cr (keep : Int) (f : Fl) : Fl := ⟨f.name, cut f.data (crN keep f), crN keep f⟩
theorem crN_le {keep : Int} {f : Fl} (h : f.safe ≤ f.data.size) : crN keep f ≤ f.data.size := by
  unfold crN
  split
  · exact h
  · split
    · omega
    · exact Nat.le_refl _
theorem crN_api {keep : Int} {f : Fl} (h : f.safe ≤ f.data.size) : (f.safe : Int) + max 0 (min keep ((f.data.size : Int) - f.safe)) = (crN keep f : Int) := by
  unfold crN
  split
  · omega
  · split <;> omega
theorem cut_size {s : ByteArray} {n : Nat} (h : n ≤ s.size) : (cut s n).size = n := by
  unfold cut
  simp [ByteArray.size_extract]
  omega

theorem slice_h (s : ByteArray) (X : Int) (M : Nat) (h : X = (M : Int)) (hM : M ≤ s.size) (w : World) : (Instr.slice 9 (.string s) none (some (.int .i64 X)) none).run Tryz.prog w = .ok (.string (cut s M)) w := by
  subst h
  rw [run_slice_string_h (P := Tryz.prog) (w := w) (t := 9) (s := s) Tryz.underlying9 .i64 (M : Int) (by omega) (by omega)]
  rfl

/-- The disk that is made: its files grow. -/
theorem St.grow {T e : TypeId} {w W W5 : World} {b : Nat} {fs : List Fl} {left : Int} {fv v5 : Value} {f : Fl} {o : Obj} (hw : Below w.heap.size w W) (h : St T e W w.heap.size b fs left fv) (hT : T ≠ e) (o5 : W5.ownsRow w.heap.size e 3 v5 (fs.length + 1) (fs.flatMap fC ++ fC f)) (g : (W.alloc o).grownBy W5 fv.ownBlock) (h5 : v5.ownBlock = fv.ownBlock ∨ v5.ownBlock = some (W.alloc o).heap.size) : St T e (W5.setCell ⟨b, 0, none⟩ v5) w.heap.size b (fs ++ [f]) left v5 ∧ Below w.heap.size w (W5.setCell ⟨b, 0, none⟩ v5) := by
  have hs := h.appended hT o5 g h5
  refine ⟨hs.st, hs.tch.os.trans hw.os, hs.tch.tape.trans hw.tape, hs.tch.output.trans hw.output, Nat.le_trans hw.size hs.tch.size, fun k hk => ?_⟩
  rw [hs.tch.block k (Nat.lt_of_lt_of_le hk hw.size) (fun q => ?_)]
  · exact hw.block k hk
  · rcases q with q | q
    · have := h.ge; omega
    · have := (own_block h.own q).1; omega

end Go.Proofs.YtkncboinfcnklabGreatDoor

namespace Go.Proofs.YtkncboinfcnklabGreatDoor
open Go.RowKit Go.Deep Go.Proofs.YtkncboinfcnklabGreatDoor.Mth

set_option maxRecDepth 100000 in
set_option maxHeartbeats 4000000 in
theorem apiCrash_any {w : World} {B b hb : Nat} {fs : List Fl} {left : Int} {fv : Value} (h : St 82 87 w B b fs left fv) (hp : Ptr 85 w hb b) (keep : Int) (_hk0 : -9223372036854775808 ≤ keep) (_hk1 : keep < 9223372036854775808) (hl : fs.length ≤ 4194304) (hsf : ∀ f ∈ fs, f.safe ≤ f.data.size) (hsz : ∀ f ∈ fs, f.data.size ≤ 70368744177664) :
    Calls Tryz.prog 14 #[.pointer (some ⟨hb, 0, none⟩), .int .i64 keep] w fun e w' => ∃ d' h' b' fv', e = .returned (.tuple #[.pointer (some ⟨d', 0, none⟩), .pointer (some ⟨h', 0, none⟩)]) ∧ w.heap.size ≤ d' ∧ w.heap.size ≤ h' ∧ Below w.heap.size w w' ∧ St 82 87 w' w.heap.size b' (fs.map (cr keep)) (-1) fv' ∧ Ptr 104 w' d' b' ∧ Ptr 85 w' h' b' := by
  obtain ⟨i0, hi0, hz0, hz1, hz2⟩ := info_parts Tryz.info87
  obtain ⟨a, c, rfl, hc, hm⟩ := own_slice h.own
  unfold maxLen at hm
  have CN := hide (apiNew_any w w.heap.size (Nat.le_refl _))
  have HS := hide h
  have HP := hide hp
  have HSF := hide hsf
  have HSZ := hide hsz
  clear h hp hsf hsz
  generalize hn : fs.length = n at *
  have HN := hide hn
  clear hn
  go_enter Tryz.func14, Tryz.ntmps14
  go_wp2_with fail
  refine CN.out.mono ?_
  rintro e w1 ⟨d', h', b', rfl, hb', hd', hh', hbl, hst, hpd, hph⟩
  have HB1 := hide hbl
  have HS1 := hide hst
  have HPD1 := hide hpd
  have HPH1 := hide hph
  obtain ⟨p0, _⟩ := cell_of (j := 0) (u := .pointer (some ⟨b, 0, none⟩)) (HP.out.below hbl) rfl
  obtain ⟨c0, f0⟩ := cell_of (j := 0) (u := .slice a n c) (HS.out.below hbl).blk rfl
  clear hbl hst CN hpd hph
  go_wp2_with fail
  clear p0 c0 f0
  go_loopw [23] (fun i wr => ∃ (k : Nat) (fv' : Value), k ≤ n ∧ i = .int .i64 k ∧ Below w.heap.size w wr ∧ St 82 87 wr w.heap.size b' ((fs.take k).map (cr keep)) (-1) fv' ∧ Ptr 104 wr d' b' ∧ Ptr 85 wr h' b') (fun i _ => n - (intOf i).toNat)
  case atStart => exact ⟨0, _, Nat.zero_le _, rfl, HB1.out, HS1.out, HPD1.out, HPH1.out⟩
  case round =>
    obtain ⟨k, fv', hk, rfl, hbel, hst, hpd, hph⟩ := hrel
    have HB := hide hbel
    have HD := hide hst
    have HPD := hide hpd
    have HPH := hide hph
    clear hbel hst hpd hph
    by_cases hlt : k < n
    · have ho := (HS.out.below HB.out).own
      rw [HN.out] at ho
      obtain ⟨g, rfl⟩ := own_some ho (by omega)
      obtain ⟨d0, d1, d2⟩ := own_fl ho HN.out hlt
      clear ho
      have HTK := hide (take_snoc (by rw [HN.out]; exact hlt : k < fs.length) fl0)
      obtain ⟨f, hf⟩ : ∃ f, f = fs.getD k fl0 := ⟨_, rfl⟩
      have hfm : f ∈ fs := by
        rw [hf, List.getD, List.getElem?_eq_getElem (by rw [HN.out]; exact hlt)]
        exact List.getElem_mem _
      have hs1 := HSF.out f hfm
      have hs2 := HSZ.out f hfm
      rw [← hf] at d0 d1 d2
      have HTK2 : Hid ((fs.take (k + 1)).map (cr keep) = (fs.take k).map (cr keep) ++ [cr keep f]) := by
        show _ = _
        rw [HTK.out, ← hf, List.map_append]
        rfl
      have hml : ((fs.take k).map (cr keep)).length ≤ k := by rw [List.length_map, List.length_take]; omega
      have hcn := crN_le (keep := keep) hs1
      have hXM := crN_api (keep := keep) hs1
      have HCF : Hid (cr keep f = ⟨f.name, cut f.data (crN keep f), crN keep f⟩) := rfl
      have hcs := cut_size hcn
      clear HTK hf hfm
      obtain ⟨nm, dt, sf⟩ := f
      simp only at d0 d1 d2 hs1 hs2 hcn hXM hcs HCF
      have hsl := fun w => slice_h dt ((sf : Int) + max 0 (min keep ((dt.size : Int) - sf))) (crN keep ⟨nm, dt, sf⟩) hXM hcn w
      generalize crN keep ⟨nm, dt, sf⟩ = M at *
      have HCS := hide hcs
      clear hcs
      go_wp2_with fail
      have HBK := hide (new_blk wr #[.string nm, .string (dt.extract 0 M), .int .i64 (M : Int)] 87)
      have HB2 := hide (HB.out.trans ((below_alloc wr (Obj.cells #[.string nm, .string (dt.extract 0 M), .int .i64 (M : Int)] 87)).mono HB.out.size))
      have HD2 := hide (HD.out.below (below_alloc wr (Obj.cells #[.string nm, .string (dt.extract 0 M), .int .i64 (M : Int)] 87)))
      have HPD2 := hide (HPD.out.below (below_alloc wr (Obj.cells #[.string nm, .string (dt.extract 0 M), .int .i64 (M : Int)] 87)))
      have HPH2 := hide (HPH.out.below (below_alloc wr (Obj.cells #[.string nm, .string (dt.extract 0 M), .int .i64 (M : Int)] 87)))
      generalize wr.alloc (Obj.cells #[.string nm, .string (dt.extract 0 M), .int .i64 (M : Int)] 87) = W at *
      generalize wr.heap.size = nb at *
      generalize hfl : (fs.take k).map (cr keep) = fl at *
      have HFL := hide hfl
      have HCT : Hid (cut dt M = dt.extract 0 M) := rfl
      generalize dt.extract 0 M = ct at *
      clear hfl hsl hXM
      obtain ⟨m0, _⟩ := cell_of (j := 0) (u := .string nm) HBK.out rfl
      obtain ⟨m1, _⟩ := cell_of (j := 1) (u := .string ct) HBK.out rfl
      obtain ⟨m2, _⟩ := cell_of (j := 2) (u := .int .i64 (M : Int)) HBK.out rfl
      have m0' : (W.alloc (Obj.cells #[.string nm, .string ct, .int .i64 (M : Int)] 87)).cell? ⟨nb, 0, none⟩ = some (.string nm) := cellA m0
      have m1' : (W.alloc (Obj.cells #[.string nm, .string ct, .int .i64 (M : Int)] 87)).cell? ⟨nb, 1, none⟩ = some (.string ct) := cellA m1
      have m2' : (W.alloc (Obj.cells #[.string nm, .string ct, .int .i64 (M : Int)] 87)).cell? ⟨nb, 2, none⟩ = some (.int .i64 (M : Int)) := cellA m2
      obtain ⟨a2, c2, rfl, _, hm2⟩ := own_slice HD2.out.own
      unfold maxLen at hm2
      obtain ⟨q0, qf0⟩ := cell_of (j := 0) (u := .slice a2 fl.length c2) HD2.out.blk rfl
      have q1 : (W.alloc (Obj.cells #[.string nm, .string ct, .int .i64 (M : Int)] 87)).cell? ⟨b', 0, none⟩ = some (.slice a2 fl.length c2) := cellA q0
      obtain ⟨r0, _⟩ := cell_of (j := 0) (u := .pointer (some ⟨b', 0, none⟩)) HPH2.out rfl
      have r1 : (W.alloc (Obj.cells #[.string nm, .string ct, .int .i64 (M : Int)] 87)).cell? ⟨h', 0, none⟩ = some (.pointer (some ⟨b', 0, none⟩)) := cellA r0
      have HNB : Hid (some b' ≠ (Value.slice a2 fl.length c2).ownBlock) := HD2.out.ne (by decide)
      have HND : Hid (some h' ≠ (Value.slice a2 fl.length c2).ownBlock) := by
        intro q
        obtain ⟨_, _, D, hD⟩ := own_block HD2.out.own q
        rw [HPH2.out] at hD
        injection hD with hD
        injection hD with _ hD _
        exact absurd hD (by decide)
      have hszW := HB2.out.size
      clear d0 d1 d2
      go_region_law (refine step_own_at _ rfl _ _ 80 rfl w.heap.size 87 i0 (.agg #[.string ⟨#[]⟩, .string ⟨#[]⟩, .int .i64 0]) 3 40 Tryz.underlying80 hi0 hz0 hz1 hz2 rfl (by decide) _ _ _ rfl (by exact HD2.out.own.alloc _) ⟨W.heap.size, 0, none⟩ 1 1 [.string nm, .string ct, .int .i64 (M : Int)] rfl rfl (by exact cells_new _ _ _ _ rfl) (by intro u hu; simp at hu; rcases hu with rfl | rfl | rfl <;> rfl) (by unfold maxLen; omega) (by omega) (by simp; omega) ?_; intro v5 W5 o5 g5 n5; obtain ⟨a5, c5, rfl, _, _⟩ := own_slice o5; have g6 : (W.alloc (Obj.cells #[.string nm, .string ct, .int .i64 (M : Int)] 87)).grownBy W5 (Value.slice a2 fl.length c2).ownBlock := ⟨g5.os, g5.tape, g5.output, g5.size, g5.block⟩; have KS := hide (St.grow (f := ⟨nm, ct, M⟩) HB2.out HD2.out (by decide) o5 g6 n5); have KT := hide (HD2.out.appended (f := ⟨nm, ct, M⟩) (by decide) o5 g6 n5); obtain ⟨fb, ff⟩ := cell_of (j := 0) (u := .slice a2 fl.length c2) (beside g6 HD2.out.blk HNB.out) rfl; obtain ⟨fd, _⟩ := cell_of (j := 0) (u := .pointer (some ⟨b', 0, none⟩)) (beside g6 HPH2.out HND.out) rfl; clear o5 g5 g6 n5)
      all_goals (
        have HPD5 := hide (HPD2.out.keep HD2.out KT.out.tch (by decide) (by decide))
        have HPH5 := hide (HPH2.out.keep HD2.out KT.out.tch (by decide) (by decide))
        go_wp2_with fail
        go_roundw
        case rel => exact ⟨k + 1, _, by omega, by go_num, KS.out.2, by rw [HTK2.out, HCF.out, HCT.out]; exact KS.out.1, HPD5.out, HPH5.out⟩
        case measure => simp [intOf]; omega)
    · have hke : k = n := by omega
      subst hke
      have HF : Hid (fs.take k = fs) := List.take_of_length_le (by rw [HN.out]; exact Nat.le_refl _)
      go_wp2
      go_ret2
      exact ⟨d', h', b', fv', rfl, hd', hh', HB.out, by have := HD.out; rwa [HF.out] at this, HPD.out, HPH.out⟩
end Go.Proofs.YtkncboinfcnklabGreatDoor
