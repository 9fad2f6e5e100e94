import Derived.Test.YtkncboinfcnklabGreatDoorQ12
import Derived.RangeFuncBox
import Derived.RangeFuncLeaves
import Derived.Shelf.Abstract
import Derived.WalkKit
import Derived.OwnWalkIn
import Derived.TacticsInMore
import Derived.LoopNIn
import Derived.LoopIn
import Derived.Laws.OwnMore
namespace Go.Proofs.YtkncboinfcnklabGreatDoor
open Go.RowKit Go.Deep Go.Proofs.YtkncboinfcnklabGreatDoor.Mth

theorem LStp.box {w w' : World} {ρ ρ' : Nat → Nat} (h : LStp w w' ρ ρ') {bx : Nat} {D : Obj} (h0 : ρ bx = 0) (hb : w.heap[bx]? = some D) : w'.heap[bx]? = some D ∧ ρ' bx = 0 := by
  have hlt := (Array.getElem?_eq_some_iff.1 hb).1
  exact ⟨(h.tch.block bx hlt (fun q => q.1 h0)).trans hb, h.old bx hlt h0⟩
theorem LogAt.free {w : World} {ρ : Nat → Nat} {B N lb : Nat} {G : Gh} {L : Lg} (h : LogAt w ρ B N lb G L) {k : Nat} (hk : w.heap.size ≤ k) : ρ k = 0 := by
  by_cases e : ρ k = 0
  · exact e
  · have := (h.x.lt k e).1
    omega

set_option maxHeartbeats 1000000 in
theorem append_down {w : World} {ρ : Nat → Nat} {B N lb : Nat} {G : Gh} {L : Lg} (h : LogAt w ρ B N lb G L) (s : ByteArray) (q : G.left = 0) :
    Calls Tryz.prog 40 #[ptrV lb, .string s] w fun e w' => e = .returned (.tuple #[.int .i64 0, .int .i64 3]) ∧ w' = w := by
  have CS := hide (jStopped_any h.x.j.j)
  rw [q, show ((0 : Int) == 0) = true from rfl] at CS
  obtain ⟨c6, _⟩ := cell_of (j := 6) (u := ptrV G.jb) h.x.b.blk rfl
  clear h
  go_enter Tryz.func40, Tryz.ntmps40
  go_wp2_with (first | (go_at_call 64; refine CS.out.mono ?_; rintro e w2 ⟨rfl, hw⟩; rw [hw]; clear hw w2))
  go_ret2
  exact ⟨rfl, rfl⟩

set_option maxHeartbeats 1000000 in
theorem append_long {w : World} {ρ : Nat → Nat} {B N lb : Nat} {G : Gh} {L : Lg} (h : LogAt w ρ B N lb G L) (s : ByteArray) (q : G.left ≠ 0) (hs : 60 < s.size) (hs2 : s.size ≤ 1099511627776) :
    Calls Tryz.prog 40 #[ptrV lb, .string s] w fun e w' => e = .returned (.tuple #[.int .i64 0, .int .i64 4]) ∧ w' = w := by
  have CS := hide (jStopped_any h.x.j.j)
  rw [show (G.left == 0) = false from by simpa using q] at CS
  obtain ⟨c6, _⟩ := cell_of (j := 6) (u := ptrV G.jb) h.x.b.blk rfl
  clear h q
  have h60 : (60 : Int) < (s.size : Int) := by omega
  go_enter Tryz.func40, Tryz.ntmps40
  go_wp2_with (first | (go_at_call 64; refine CS.out.mono ?_; rintro e w2 ⟨rfl, hw⟩; rw [hw]; clear hw w2))
  go_ret2
  exact ⟨rfl, rfl⟩

set_option maxRecDepth 100000 in
set_option maxHeartbeats 4000000 in
theorem append_busy {w : World} {ρ : Nat → Nat} {B N lb : Nat} {G : Gh} {L : Lg} (h : LogAt w ρ B N lb G L) (s : ByteArray) (q : G.left ≠ 0) (hs : s.size ≤ 60) (hf : L.memory ≤ L.mem.length) (hb : L.fan + L.back ≤ (L.lev 0).length) (hfan : L.fan ≤ 4) (hback : L.back ≤ 4) (hlv : (L.lev 0).length ≤ 4000000) :
    Calls Tryz.prog 40 #[ptrV lb, .string s] w fun e w' => e = .returned (.tuple #[.int .i64 0, .int .i64 5]) ∧ Below w.heap.size w w' := by
  have CS := hide (jStopped_any h.x.j.j)
  rw [show (G.left == 0) = false from by simpa using q] at CS
  obtain ⟨c6, _⟩ := cell_of (j := 6) (u := ptrV G.jb) h.x.b.blk rfl
  obtain ⟨c1, _⟩ := cell_of (j := 1) (u := .int .i64 (L.fan : Int)) h.x.b.blk rfl
  obtain ⟨c2, _⟩ := cell_of (j := 2) (u := .int .i64 (L.back : Int)) h.x.b.blk rfl
  obtain ⟨a0, k0, hlr, hc0, hm0⟩ := own_slice (h.x.v.row 0 (by omega))
  obtain ⟨c8, _⟩ := cell_of (j := 8) (u := G.lr 0) h.x.b.blk rfl
  rw [hlr, h.x.v.len 0 (by omega)] at c8
  have CF : Hid (∀ d os, _) := fun d os => Calls.regrown_of (w := w) (d := d) (os := os) ((isFull_any (h.below (below_regrown w d os))).mono fun e w' q => ⟨q.1, q.2⟩)
  rw [decide_eq_true hf] at CF
  have e1 := cell_regrown c1
  have e2 := cell_regrown c2
  have e8 := cell_regrown c8
  clear h q c1 c2 c8 hlr hc0 hm0
  generalize (L.lev 0).length = nl at *
  generalize L.fan = fan at *
  generalize L.back = back at *
  have hd : decide ((fan : Int) + (back : Int) ≤ (nl : Int)) = true := decide_eq_true (by omega)
  have hd2 : (fan : Int) + (back : Int) ≤ (nl : Int) := by omega
  have h60 : ¬ (60 : Int) < (s.size : Int) := by omega
  go_enter Tryz.func40, Tryz.ntmps40
  go_wp2_with (first | (go_at_call 64; refine CS.out.mono ?_; rintro e w2 ⟨rfl, hw⟩; rw [hw]; clear hw w2))
  refine wp_region_quiet_below (by kernel_rfl) (by kernel_rfl) ?_
  repeat (go_big_quiet_step (first | (go_at_call 65; exact CF.out _ _)))
  refine wpQuiet_nil ?_
  intro _ hw'
  obtain ⟨⟨dq, osq⟩, hw''⟩ := hw'
  subst hw''
  go_wp2
  go_ret2
  exact ⟨rfl, below_regrown w dq osq⟩
end Go.Proofs.YtkncboinfcnklabGreatDoor

namespace Go.Proofs.YtkncboinfcnklabGreatDoor
open Go.RowKit Go.Deep Go.Proofs.YtkncboinfcnklabGreatDoor.Mth

/-- The table of spaces stands, whatever is done from B on. -/
def TabB (B : Nat) (w : World) : Prop := ∀ w', Below B w w' → Tab w'
theorem TabB.now {B : Nat} {w : World} (h : TabB B w) : Tab w := h w (Below.refl _ _)
theorem TabB.next {B : Nat} {w w' : World} (h : TabB B w) (hb : Below B w w') : TabB B w' := fun w2 h2 => h w2 (hb.trans h2)

/-- What a call that laid a text down leaves. -/
structure Apd (w w' : World) (ρ : Nat → Nat) (B N lb : Nat) (G : Gh) (L' : Lg) (dt : ByteArray) (left : Int) : Prop where
  ex : ∃ ρ' G', LogAt w' ρ' B N lb G' L' ∧ LStp w w' ρ ρ' ∧ (GSame G G' ∧ G'.sf = G'.dt.size) ∧ G'.dt = dt ∧ G'.left = left
theorem Apd.pre {w w1 w2 : World} {ρ ρ1 : Nat → Nat} {B N lb : Nat} {G G1 : Gh} {L' : Lg} {dt : ByteArray} {left : Int} (h1 : LStp w w1 ρ ρ1) (hg : GSame G G1) (h : Apd w1 w2 ρ1 B N lb G1 L' dt left) : Apd w w2 ρ B N lb G L' dt left := by
  obtain ⟨⟨ρ', G', r1, r2, r3, r4, r5⟩⟩ := h
  exact ⟨⟨ρ', G', r1, h1.trans r2, ⟨hg.trans r3.1, r3.2⟩, r4, r5⟩⟩

/-- The entry comes to the memory. -/
theorem tail_add {w w' : World} {ρ : Nat → Nat} {B N lb : Nat} {G : Gh} {L : Lg} (h : LogAt w ρ B N lb G L) (hsf : G.sf = G.dt.size) (hB : B ≤ w.heap.size) {e : Ent} {me' : Value} (hm : SegStp w w' B G.ms G.mm G.me (L.mem ++ [e]) me') : Apd w w' ρ B N lb G (L.more e) G.dt G.left := by
  obtain ⟨ρ', r1, r2⟩ := h.mStep hB hm
  exact ⟨⟨ρ', _, r1, r2, ⟨⟨rfl, rfl, rfl⟩, hsf⟩, rfl, rfl⟩⟩

set_option maxRecDepth 100000 in
set_option maxHeartbeats 4000000 in
/-- The last part of Append: the entry stands in a box. -/
theorem add_arm {w : World} {ρ : Nat → Nat} {B N lb bx : Nat} {G : Gh} {L : Lg} (h : LogAt w ρ B N lb G L) (hsf : G.sf = G.dt.size) (hB : B ≤ w.heap.size) (ht : Tab w) (e : Ent) (hx : e.text.size ≤ 60) (hl : L.mem.length ≤ 1048576) (hbx : w.heap[bx]? = some (Obj.cells #[.int .i64 e.seq, .int .i64 e.time, .string e.text] 49 (0, 0))) (h0 : ρ bx = 0) :
    Calls Tryz.prog 61 #[ptrV G.ms, eV e] w fun r w' => r = .returned (.tuple #[]) ∧ Apd w w' ρ B N lb G (L.more e) G.dt G.left ∧ w'.cell? ⟨bx, 0, none⟩ = some (.int .i64 e.seq) := by
  refine (addSeg_any h.m.seg hB ht e hx hl).mono ?_
  rintro r w' ⟨rfl, ev', hs⟩
  refine ⟨rfl, tail_add h hsf hB hs, ?_⟩
  obtain ⟨ρ', _, r2⟩ := h.mStep hB hs
  exact (cell_of (j := 0) (r2.box h0 hbx).1 rfl).1

theorem roll_fin {w w' : World} {ρ : Nat → Nat} {B N lb : Nat} {G : Gh} {L : Lg} {ks : List Wk} (h : LogAt w ρ B N lb G L) (hl : Laid w w' ρ B N lb G L ks) : ∃ ρ' G', LogAt w' ρ' B N lb G' { L with wks := ks } ∧ LStp w w' ρ ρ' ∧ GSame G G' ∧ G'.dt = G.dt ∧ G'.left = G.left ∧ G'.ms = G.ms ∧ G'.sf = G.sf := by
  obtain ⟨ρ', wl', r1, r2⟩ := hl.log h.m
  exact ⟨ρ', _, r1, r2, ⟨rfl, rfl, rfl⟩, rfl, rfl, rfl, rfl⟩

set_option maxRecDepth 100000 in
set_option maxHeartbeats 8000000 in
theorem append_ok {w : World} {ρ : Nat → Nat} {B N lb : Nat} {G : Gh} {L : Lg} (h : LogAt w ρ B N lb G L) (hB : B ≤ w.heap.size) (ht : TabB B w) (s : ByteArray) (q0 : G.left ≠ 0) (q1 : G.left ≠ 1) (q2 : -1 ≤ G.left) (q3 : G.left < 9223372036854775808) (hs : s.size ≤ 60) (hn : ¬ (L.memory ≤ L.mem.length ∧ L.fan + L.back ≤ (L.lev 0).length)) (hfan : L.fan ≤ 4) (hback : L.back ≤ 4) (hlv : ∀ i, i < 6 → (L.lev i).length < 4000000) (hd : G.dt.size ≤ 1099511627776) (hct : L.count ≤ 1000000000000) (hml : L.mem.length ≤ 1048576) :
    Calls Tryz.prog 40 #[ptrV lb, .string s] w fun e w' => e = .returned (.tuple #[.int .i64 (L.count : Int), .int .i64 0]) ∧ Apd w w' ρ B N lb G (L.app s) (G.dt ++ recB 0 s) (decL (decL G.left)) := by
  have CS := hide (jStopped_any h.x.j.j)
  rw [show (G.left == 0) = false from by simpa using q0] at CS
  obtain ⟨c6, _⟩ := cell_of (j := 6) (u := ptrV G.jb) h.x.b.blk rfl
  obtain ⟨c1, _⟩ := cell_of (j := 1) (u := .int .i64 (L.fan : Int)) h.x.b.blk rfl
  obtain ⟨c2, _⟩ := cell_of (j := 2) (u := .int .i64 (L.back : Int)) h.x.b.blk rfl
  obtain ⟨a0, k0, hlr, hc0, hm0⟩ := own_slice (h.x.v.row 0 (by omega))
  obtain ⟨c8, _⟩ := cell_of (j := 8) (u := G.lr 0) h.x.b.blk rfl
  rw [hlr, h.x.v.len 0 (by omega)] at c8
  have CF : Hid (∀ d os, _) := fun d os => Calls.regrown_of (w := w) (d := d) (os := os) ((isFull_any (h.below (below_regrown w d os))).mono fun e w' q => ⟨q.1, q.2⟩)
  have e1 := cell_regrown c1
  have e2 := cell_regrown c2
  have e8 := cell_regrown c8
  -- the entry is laid down
  have CL : Hid (∀ w1, Below w.heap.size w w1 → w1.cell? ⟨lb, 6, none⟩ = some (ptrV G.jb) ∧ Calls Tryz.prog 66 #[ptrV G.jb, .string s] w1 fun e w2 => e = .returned (.tuple #[.agg #[.int .i64 (L.count : Int), .int .i64 (L.clock : Int), .string s], .bool true]) ∧ ∃ ρ2 G2, LogAt w2 ρ2 B N lb G2 { L with count := L.count + 1 } ∧ LStp w w2 ρ ρ2 ∧ GSame G G2 ∧ G2.dt = G.dt ++ recB 0 s ∧ G2.left = decL (decL G.left) ∧ G2.sf = G2.dt.size) := by
    intro w1 hb1
    have h1 := h.below hb1
    refine ⟨(cell_of (j := 6) h1.x.b.blk rfl).1, (jLay_yes h1.x.j.j (Nat.le_trans hB hb1.size) q2 q3 q0 q1 s hs hd hct).mono ?_⟩
    rintro e w2 ⟨rfl, fv', hj⟩
    obtain ⟨ρ2, r1, r2⟩ := h1.jStep (Nat.le_trans hB hb1.size) hj
    exact ⟨rfl, ρ2, _, r1, LStp.pre hb1 r2, ⟨rfl, rfl, rfl⟩, rfl, rfl, rfl⟩
  have HT : Hid (∀ w' ρ', LStp w w' ρ ρ' → Below B w w') := fun w' ρ' hw => below_lstp (Below.refl B w) hw h.x.lt hB
  have HTB := hide ht
  have h60 : ¬ (60 : Int) < (s.size : Int) := by omega
  have HLT := hide h.x.lt
  clear h q0 q1 q2 q3 hd hct c1 c2 c8 hlr hc0 hm0 ht
  by_cases hf : L.memory ≤ L.mem.length
  · rw [decide_eq_true hf] at CF
    have hnl : ¬ L.fan + L.back ≤ (L.lev 0).length := fun q => hn ⟨hf, q⟩
    have hd2 : ¬ (L.fan : Int) + (L.back : Int) ≤ ((L.lev 0).length : Int) := by omega
    have hd3 : decide ((L.fan : Int) + (L.back : Int) ≤ ((L.lev 0).length : Int)) = false := decide_eq_false hd2
    have hl0 := hlv 0 (by omega)
    have HAPP : Hid (L.app s = ({ L.roll with count := L.count + 1 } : Lg).more ⟨L.count, L.clock, s⟩) := by
      show _ = _
      unfold Lg.app
      rw [if_pos hf]
      rfl
    have HF := hide hf
    have HLV := hide hlv
    clear hf hn hlv
    go_enter Tryz.func40, Tryz.ntmps40
    go_wp2_with (first | (go_at_call 64; refine CS.out.mono ?_; rintro e w2 ⟨rfl, hw⟩; rw [hw]; clear hw w2))
    refine wp_region_quiet_below (by kernel_rfl) (by kernel_rfl) ?_
    repeat (go_big_quiet_step (first | (go_at_call 65; exact CF.out _ _)))
    refine wpQuiet_nil ?_
    intro _ hw'
    obtain ⟨⟨dq, osq⟩, hw''⟩ := hw'
    subst hw''
    obtain ⟨d6, hlay⟩ := CL.out _ (below_regrown w dq osq)
    generalize Sort.grow (redrawn w dq) osq = w1 at *
    have HLAY := hide hlay
    clear hlay CL CF e1 e2 e8 CS hd2 hd3 hnl
    go_wp2_with fail
    refine HLAY.out.mono ?_
    rintro e w2 ⟨rfl, ρ2, G2, h2, hst2, hgs2, hdt2, hlf2, hsf2⟩
    have hb3 := below_allocG w2 (Obj.cells #[.int .i64 (L.count : Int), .int .i64 (L.clock : Int), .string s] 49)
    have h3 := h2.below hb3
    have hbx := new_blk w2 #[.int .i64 (L.count : Int), .int .i64 (L.clock : Int), .string s] 49
    have hst3 := hst2.below hb3
    have CF2 := hide (isFull_any h3)
    rw [show decide (({ L with count := L.count + 1 } : Lg).memory ≤ ({ L with count := L.count + 1 } : Lg).mem.length) = true from decide_eq_true HF.out] at CF2
    have hf0 := h2.free (Nat.le_refl _)
    have H3 := hide h3
    have HBX := hide hbx
    have HST3 := hide hst3
    have HGS := hide (⟨hgs2, hdt2, hlf2⟩ : GSame G G2 ∧ _ ∧ _)
    clear h2 h3 hbx hst2 hst3 hgs2 hdt2 hlf2 hb3 HLAY
    go_wp2_with (first | (go_at_call 65; refine CF2.out.mono ?_; rintro e w4 ⟨rfl, hb4⟩; have HB4 := hide hb4; have k7 := (cell_of (j := 7) (u := ptrV G2.ms) (H3.out.below hb4).x.b.blk rfl).1; clear hb4))
    have h4 := H3.out.below HB4.out
    have hst4 := HST3.out.below HB4.out
    have hbx4 : w4.heap[w2.heap.size]? = some (Obj.cells #[.int .i64 (L.count : Int), .int .i64 (L.clock : Int), .string s] 49 (0, 0)) := (HB4.out.block _ (Array.getElem?_eq_some_iff.1 HBX.out).1).trans HBX.out
    obtain ⟨hx4, hr4, hn4, hs4⟩ := h4.toSeg
    have hB4 := (HT.out _ _ hst4).size
    have CP0 := put_log hx4 (Nat.le_trans hB hB4) (i := 0) (by omega) h4.m.seg hr4 hn4 (by show (L.lev 0).length ≤ 4000000; omega)
    rw [show ((0 : Nat) : Int) = 0 from rfl] at CP0
    have CP := hide CP0
    clear CP0
    have hst4' := hst4.trans hs4
    have hf4 : rel34 ρ2 w2.heap.size = 0 := by rw [rel34_ne (by omega)]; exact hf0
    have HST4 := hide hst4'
    have HBX4 := hide hbx4
    clear h4 hst4 hbx4 hx4 hr4 hn4 hs4 hst4' CF2 H3 HST3 HBX HB4
    refine Calls.mono CP.out ?_
    rintro e w5 ⟨rfl, ρ5, v5, hx5, hst5, _, _⟩
    obtain ⟨hbx5, hf5⟩ := hst5.box hf4 HBX4.out
    have hst5' := HST4.out.trans hst5
    have hBw5 := HT.out _ _ hst5'
    have CN := hide (newSeg_any w5 B (Nat.le_trans hB hBw5.size) (HTB.out.next hBw5).now (rdE_nil w5) (fun e he => by cases he) (by simp))
    have HX5 := hide hx5
    have HST5 := hide hst5'
    have HBX5 := hide hbx5
    clear hx5 hst5 hst5' hbx5 CP HST4 HBX4 hf4 k7
    go_wp2_with fail
    refine CN.out.mono ?_
    rintro e w6 ⟨s6, m6, ev6, rfl, hn6⟩
    obtain ⟨j7, f7⟩ := cell_of (j := 7) (u := ptrV G2.ms) (HX5.out.below hn6.bel).b.blk rfl
    obtain ⟨ρ7, h7, hst7⟩ := HX5.out.newMem (Nat.le_trans hB hBw5.size) hn6
    obtain ⟨hbx7, hf7⟩ := hst7.box hf5 HBX5.out
    have hst7' := HST5.out.trans hst7
    have hBw7 := HT.out _ _ hst7'
    have CT := hide (layTasks_any h7.x (Nat.le_trans hB hBw7.size) hfan (fun i hi => by
      show (if i = 0 then L.lev i ++ [L.mem] else L.lev i).length ≤ 4000000
      have := HLV.out i hi
      split
      · rw [List.length_append, List.length_singleton]; omega
      · omega))
    have H7 := hide h7
    have HST7 := hide hst7'
    have HBX7 := hide hbx7
    clear hn6 h7 hst7 hst7' hbx7 CN HX5 HST5 HBX5 hf5
    go_wp2_with fail
    refine CT.out.mono ?_
    rintro e w8 ⟨rfl, hla8⟩
    obtain ⟨ρ8, G8, h8, hst8, hg8, hdt8, hlf8, hms8, hsf8⟩ := roll_fin H7.out hla8
    have hsf8' : G8.sf = G8.dt.size := by rw [hsf8, hdt8]; exact hsf2
    obtain ⟨hbx8, hf8⟩ := hst8.box hf7 HBX7.out
    have hst8' := HST7.out.trans hst8
    have HG8 : Hid (GSame G G8 ∧ G8.dt = G.dt ++ recB 0 s ∧ G8.left = decL (decL G.left)) := ⟨⟨hg8.jb.trans HGS.out.1.jb, hg8.db.trans HGS.out.1.db, hg8.sb.trans HGS.out.1.sb⟩, hdt8.trans HGS.out.2.1, hlf8.trans HGS.out.2.2⟩
    have hbb : Below w8.heap.size w8 w8.drew := ⟨rfl, rfl, rfl, Nat.le_refl _, fun _ _ => rfl⟩
    have h8' : LogAt w8 ρ8 B N lb G8 { L.roll with count := L.count + 1 } := h8
    have hm8 : ({ L.roll with count := L.count + 1 } : Lg).mem.length ≤ 1048576 := by show ([] : List Ent).length ≤ 1048576; simp
    generalize ({ L.roll with count := L.count + 1 } : Lg) = L8 at *
    have h9 := h8'.below hbb
    have hst9 := hst8'.below hbb
    have hbx9 : w8.drew.heap[w2.heap.size]? = some (Obj.cells #[.int .i64 (L.count : Int), .int .i64 (L.clock : Int), .string s] 49 (0, 0)) := hbx8
    have hBw := HT.out _ _ hst9
    have CA := hide (add_arm h9 hsf8' (Nat.le_trans hB hBw.size) (HTB.out.next hBw).now ⟨L.count, L.clock, s⟩ hs hm8 hbx9 hf8)
    obtain ⟨x0, _⟩ := cell_of (w := w8) (j := 0) (u := .int .i64 (L.count : Int)) hbx9 rfl
    obtain ⟨x1, _⟩ := cell_of (w := w8) (j := 1) (u := .int .i64 (L.clock : Int)) hbx9 rfl
    obtain ⟨x2, _⟩ := cell_of (w := w8) (j := 2) (u := .string s) hbx9 rfl
    obtain ⟨x7, _⟩ := cell_of (w := w8) (j := 7) (u := ptrV G8.ms) h9.x.b.blk rfl
    have HST9 := hide hst9
    clear h8 h8' h9 hst8 hst8' hst9 hbx8 hbx9 hBw hbb CT hla8 H7 HST7 HBX7 hg8 hdt8 hlf8 hms8
    go_wp2_with fail
    go_region_with (first
      | (go_at_call 61; refine CA.out.mono ?_; rintro e w9 ⟨rfl, ha9, y0⟩; have HA9 := hide ha9; clear ha9))
    all_goals (
      go_wp2
      go_ret2
      refine ⟨rfl, ?_⟩
      rw [HAPP.out]
      have hg := HG8.out
      have hr := Apd.pre HST9.out hg.1 HA9.out
      rw [hg.2.1, hg.2.2] at hr
      exact hr)
  · rw [decide_eq_false hf] at CF
    have HAPP : Hid (L.app s = ({ L with count := L.count + 1 } : Lg).more ⟨L.count, L.clock, s⟩) := by
      show _ = _
      unfold Lg.app
      rw [if_neg hf]
      rfl
    have HF := hide hf
    clear hf hn
    go_enter Tryz.func40, Tryz.ntmps40
    go_wp2_with (first | (go_at_call 64; refine CS.out.mono ?_; rintro e w2 ⟨rfl, hw⟩; rw [hw]; clear hw w2))
    refine wp_region_quiet_below (by kernel_rfl) (by kernel_rfl) ?_
    repeat (go_big_quiet_step (first | (go_at_call 65; exact CF.out _ _)))
    refine wpQuiet_nil ?_
    intro _ hw'
    obtain ⟨⟨dq, osq⟩, hw''⟩ := hw'
    subst hw''
    obtain ⟨d6, hlay⟩ := CL.out _ (below_regrown w dq osq)
    generalize Sort.grow (redrawn w dq) osq = w1 at *
    have HLAY := hide hlay
    clear hlay CL CF e1 e2 e8 CS
    go_wp2_with fail
    refine HLAY.out.mono ?_
    rintro e w2 ⟨rfl, ρ2, G2, h2, hst2, hgs2, hdt2, hlf2, hsf2⟩
    have hb3 := below_allocG w2 (Obj.cells #[.int .i64 (L.count : Int), .int .i64 (L.clock : Int), .string s] 49)
    have h3 := h2.below hb3
    have hbx := new_blk w2 #[.int .i64 (L.count : Int), .int .i64 (L.clock : Int), .string s] 49
    have hst3 := hst2.below hb3
    have CF2 := hide (isFull_any h3)
    rw [show decide (({ L with count := L.count + 1 } : Lg).memory ≤ ({ L with count := L.count + 1 } : Lg).mem.length) = false from decide_eq_false HF.out] at CF2
    have hf0 := h2.free (Nat.le_refl _)
    have H3 := hide h3
    have HBX := hide hbx
    have HST3 := hide hst3
    have HGS := hide (⟨hgs2, hdt2, hlf2⟩ : GSame G G2 ∧ _ ∧ _)
    clear h2 h3 hbx hst2 hst3 hgs2 hdt2 hlf2 hb3 HLAY
    go_wp2_with (first | (go_at_call 65; refine CF2.out.mono ?_; rintro e w4 ⟨rfl, hb4⟩; have HB4 := hide hb4; clear hb4))
    have hbb : Below w4.heap.size w4 w4.drew := ⟨rfl, rfl, rfl, Nat.le_refl _, fun _ _ => rfl⟩
    have h4 := (H3.out.below HB4.out).below hbb
    have hb4 := HB4.out.trans (hbb.mono HB4.out.size)
    have hst4 := HST3.out.below hb4
    have hbx4 : w4.drew.heap[w2.heap.size]? = some (Obj.cells #[.int .i64 (L.count : Int), .int .i64 (L.clock : Int), .string s] 49 (0, 0)) := (hb4.block _ (Array.getElem?_eq_some_iff.1 HBX.out).1).trans HBX.out
    have hBw := HT.out _ _ hst4
    have CA := hide (add_arm h4 hsf2 (Nat.le_trans hB hBw.size) (HTB.out.next hBw).now ⟨L.count, L.clock, s⟩ hs (by show L.mem.length ≤ 1048576; exact hml) hbx4 hf0)
    obtain ⟨x0, _⟩ := cell_of (w := w4) (j := 0) (u := .int .i64 (L.count : Int)) hbx4 rfl
    obtain ⟨x1, _⟩ := cell_of (w := w4) (j := 1) (u := .int .i64 (L.clock : Int)) hbx4 rfl
    obtain ⟨x2, _⟩ := cell_of (w := w4) (j := 2) (u := .string s) hbx4 rfl
    obtain ⟨x7, _⟩ := cell_of (w := w4) (j := 7) (u := ptrV G2.ms) h4.x.b.blk rfl
    have HST4 := hide hst4
    clear h4 hb4 hst4 hbx4 hBw hbb CF2
    go_region_with (first
      | (go_at_call 61; refine CA.out.mono ?_; rintro e w5 ⟨rfl, ha5, y0⟩; have HA5 := hide ha5; clear ha5))
    all_goals (
      go_wp2
      go_ret2
      refine ⟨rfl, ?_⟩
      rw [HAPP.out]
      have hg := HGS.out
      have hr := Apd.pre HST4.out hg.1 HA5.out
      rw [hg.2.1, hg.2.2] at hr
      exact hr)
end Go.Proofs.YtkncboinfcnklabGreatDoor

namespace Go.Proofs.YtkncboinfcnklabGreatDoor
open Go.RowKit Go.Deep Go.Proofs.YtkncboinfcnklabGreatDoor.Mth

def Tab10B (B : Nat) (w : World) : Prop := ∀ w', Below B w w' → Tab10 w'
theorem Tab10B.now {B : Nat} {w : World} (h : Tab10B B w) : Tab10 w := h w (Below.refl _ _)
theorem Tab10B.next {B : Nat} {w w' : World} (h : Tab10B B w) (hb : Below B w w') : Tab10B B w' := fun w2 h2 => h w2 (hb.trans h2)

set_option maxHeartbeats 1000000 in
theorem tick_no {w : World} {ρ : Nat → Nat} {B N lb : Nat} {G : Gh} {L : Lg} (h : LogAt w ρ B N lb G L) (n : Int) (hc : L.clock ≤ 1000000000000) (hn : canTick L.clock n = false) :
    Calls Tryz.prog 43 #[ptrV lb, .int .i64 n] w fun e w' => e = .returned (.int .i64 1) ∧ w' = w := by
  have CC := hide (jCan_any h.x.j.j n hc)
  rw [hn] at CC
  obtain ⟨c6, _⟩ := cell_of (j := 6) (u := ptrV G.jb) h.x.b.blk rfl
  clear h hn
  go_enter Tryz.func43, Tryz.ntmps43
  go_wp2_with (first | (go_at_call 70; refine CC.out.mono ?_; rintro e w2 ⟨rfl, hw⟩; rw [hw]; clear hw w2))
  go_ret
  exact ⟨rfl, rfl⟩

set_option maxRecDepth 100000 in
set_option maxHeartbeats 4000000 in
theorem tick_ok {w : World} {ρ : Nat → Nat} {B N lb : Nat} {G : Gh} {L : Lg} (h : LogAt w ρ B N lb G L) (hB : B ≤ w.heap.size) (ht : Tab10 w) (q0 : G.left ≠ 0) (q1 : G.left ≠ 1) (q2 : -1 ≤ G.left) (q3 : G.left < 9223372036854775808) (n : Nat) (hc : L.clock ≤ 1000000000000) (hn : canTick L.clock (n : Int) = true) (hd : G.dt.size ≤ 1099511627776) :
    Calls Tryz.prog 43 #[ptrV lb, .int .i64 (n : Int)] w fun e w' => e = .returned (.int .i64 0) ∧ Apd w w' ρ B N lb G { L with clock := L.clock + n } (G.dt ++ recB 1 (itoaB n)) (decL (decL G.left)) := by
  have CC := hide (jCan_any h.x.j.j (n : Int) hc)
  have hn1 : n ≤ 1000 := by
    unfold canTick at hn
    simp at hn
    omega
  rw [hn] at CC
  have CT : Hid (Calls Tryz.prog 71 #[ptrV G.jb, .int .i64 (n : Int)] w fun e w2 => e = .returned (.bool true) ∧ Apd w w2 ρ B N lb G { L with clock := L.clock + n } (G.dt ++ recB 1 (itoaB n)) (decL (decL G.left))) := by
    refine (jTick_yes h.x.j.j hB q2 q3 q0 q1 n hn1 hd hc ht).mono ?_
    rintro e w2 ⟨rfl, fv', hj⟩
    obtain ⟨ρ2, r1, r2⟩ := h.jStep hB hj
    exact ⟨rfl, ⟨⟨ρ2, _, r1, r2, ⟨⟨rfl, rfl, rfl⟩, rfl⟩, rfl, rfl⟩⟩⟩
  obtain ⟨c6, _⟩ := cell_of (j := 6) (u := ptrV G.jb) h.x.b.blk rfl
  clear h hn ht q0 q1 q2 q3 hd
  generalize (G.dt ++ recB 1 (itoaB n)) = dd at *
  generalize ({ L with clock := L.clock + n } : Lg) = L2 at *
  go_enter Tryz.func43, Tryz.ntmps43
  go_wp2_with (first
    | (go_at_call 70; refine CC.out.mono ?_; rintro e w2 ⟨rfl, hw⟩; rw [hw]; clear hw w2)
    | (go_at_call 71; refine CT.out.mono ?_; rintro e w3 ⟨rfl, ha⟩; have HA := hide ha; clear ha))
  go_ret
  exact ⟨rfl, HA.out⟩

set_option maxHeartbeats 1000000 in
theorem young_any {w : World} {ρ : Nat → Nat} {B N lb : Nat} {G : Gh} {L : Lg} (h : LogX w ρ B N lb G L) (hc : L.clock ≤ 1000000000000) (hk : L.keep ≤ 1000000) :
    Calls Tryz.prog 28 #[ptrV lb] w fun e w' => e = .returned (.int .i64 ((L.clock : Int) - (L.keep : Int))) ∧ Below w.heap.size w w' := by
  have CC : Hid (∀ d os, _) := fun d os => Calls.regrown_of (w := w) (d := d) (os := os) ((jClock_any (h.j.j.below (below_regrown w d os))).mono fun e w' q => ⟨q.1, by rw [q.2]; exact Below.refl _ _⟩)
  obtain ⟨c6, _⟩ := cell_of (j := 6) (u := ptrV G.jb) h.b.blk rfl
  obtain ⟨c4, _⟩ := cell_of (j := 4) (u := .int .i64 (L.keep : Int)) h.b.blk rfl
  have e6 := cell_regrown c6
  have e4 := cell_regrown c4
  clear h c6 c4
  generalize L.clock = ck at *
  generalize L.keep = kp at *
  go_enter Tryz.func28, Tryz.ntmps28
  go_wp2_with fail
  refine wp_region_quiet_below (by kernel_rfl) (by kernel_rfl) ?_
  repeat (go_big_quiet_step (first | (go_at_call 49; exact CC.out _ _)))
  refine wpQuiet_nil ?_
  intro _ hw'
  obtain ⟨⟨dq, osq⟩, hw''⟩ := hw'
  subst hw''
  go_wp2
  go_ret
  exact ⟨rfl, below_regrown w dq osq⟩
end Go.Proofs.YtkncboinfcnklabGreatDoor

namespace Go.Proofs.YtkncboinfcnklabGreatDoor
open Go.RowKit Go.Deep Go.Shelf Go.Proofs.YtkncboinfcnklabGreatDoor.Mth
attribute [local go_sem] Oper.semAt_some

/-! ### the levels, from the last to the first -/
/-- What comes when k rounds are over: 5, 4, .. -/
def downTo (k : Nat) : List (Fin 6) := (List.range k).map (fun j => ⟨5 - j, by omega⟩)
theorem downTo_succ (k : Nat) : downTo (k + 1) = downTo k ++ [⟨5 - k, by omega⟩] := by simp [downTo, List.range_succ]
theorem downTo_length (k : Nat) : (downTo k).length = k := by simp [downTo]
/-- What a round keeps: all below n₀ but one block. -/
def Kb (bo n₀ : Nat) (W W' : World) : Prop := W.heap.size ≤ W'.heap.size ∧ ∀ k, k < n₀ → k ≠ bo → W'.heap[k]? = W.heap[k]?
theorem Kb.trans {bo n₀ : Nat} {A B C : World} (h : Kb bo n₀ A B) (k : Kb bo n₀ B C) : Kb bo n₀ A C := ⟨Nat.le_trans h.1 k.1, fun i hi hne => (k.2 i hi hne).trans (h.2 i hi hne)⟩
theorem Kb.refl (bo n₀ : Nat) (A : World) : Kb bo n₀ A A := ⟨Nat.le_refl _, fun _ _ _ => rfl⟩
theorem Kb.cell {bo n₀ : Nat} {A B : World} (h : Kb bo n₀ A B) {a : Addr} (ha : a.block < n₀) (hne : a.block ≠ bo) : B.cell? a = A.cell? a := World.cell?_of_block (h.2 a.block ha hne)
theorem Kb.put {bo n₀ : Nat} {w : World} (hn : n₀ ≤ w.heap.size) (W : World) (l : Nat) (o o' : Obj) (hl : w.heap.size ≤ l) (h : W.heap[l]? = some o) (h1 : o.isCells = false) (h2 : o.isWalk = false) : Kb bo n₀ W (W.putObj l o') := by
  have hb := belowK_b (n₀ := n₀) hn W l o o' hl h h1 h2
  exact ⟨hb.size, fun k hk _ => hb.block k hk⟩

set_option maxRecDepth 100000 in
set_option maxHeartbeats 2000000 in
theorem back1_in (F : Fence) (n : Nat) (hf : F.fn 76) (hro : F.round = none) (hn : 1 ≤ n) (l Bs bo n₀ b : Nat) (lr : Nat → Value) (hb : b < n₀) (hbo : b ≠ bo) (hB : Bs < n₀) (hBo : Bs ≠ bo) (J Jx : List (Fin 6) → World → Prop)
    (hY : ∀ pre x W, J pre W → pre.length < 6 → YieldAt F (n - 1) Tryz.prog l #[.int .i64 (x.1 : Int), lr x.1] W fun e W' =>
      (e = .returned (.bool true) ∧ J (pre ++ [x]) W' ∧ Kb bo n₀ W W') ∨ (e = .returned (.bool false) ∧ Jx (pre ++ [x]) W'))
    (W : World) (hBs : W.cell? ⟨Bs, 0, none⟩ = some (.slice (some ⟨b, 8, none⟩) 6 6)) (hc : ∀ j, j < 6 → W.cell? ⟨b, 8 + j, none⟩ = some (lr j)) (h0 : J [] W) :
    CallsIn F n Tryz.prog 76 #[.func (.yield l) #[] #[], .pointer (some ⟨Bs, 0, none⟩)] W fun e W' => (∃ v, e = .returned v) ∧
      ((∃ ys, ys = downTo 6 ∧ J ys W') ∨ (∃ pre, (∃ k, k ≤ 6 ∧ pre = downTo k) ∧ Jx pre W')) := by
  refine callsIn_of_wp Tryz.func76 rfl hf ?_ hro
  simp only [Tryz.ntmps76, List.size_toArray, List.length_cons, List.length_nil, Nat.reduceAdd, Nat.reduceSub, Array.replicate_succ, Array.replicate_zero, List.push_toArray, List.append_toArray, List.nil_append, List.cons_append]
  gi_wp2
  gi_loopw [3] (fun i wr => ∃ k : Nat, k ≤ 6 ∧ i = .int .i64 (5 - (k : Int)) ∧ J (downTo k) wr ∧ Kb bo n₀ W wr)
    (fun i _ => (intOf i + 1).toNat)
  case atStart => exact ⟨0, Nat.zero_le _, rfl, h0, Kb.refl _ _ _⟩
  case round =>
    obtain ⟨k, hk, rfl, hJs, hnx⟩ := hrel
    have hBsr := (hnx.cell (a := ⟨Bs, 0, none⟩) hB hBo).trans hBs
    by_cases hlt : k < 6
    · obtain ⟨j, hj⟩ : ∃ j : Nat, j = 5 - k := ⟨_, rfl⟩
      have hj6 : j < 6 := by omega
      have hji : (5 : Int) - (k : Int) = (j : Int) := by omega
      obtain ⟨fn, tmps, assign, body, hy, hR⟩ := hY _ ⟨j, hj6⟩ wr hJs (by rw [downTo_length]; exact hlt)
      dsimp only at hy
      have hcx := (hnx.cell (a := ⟨b, 8 + j, none⟩) hb hbo).trans (hc j hj6)
      rw [hji]
      have hji6 : (j : Int) < 6 := by omega
      have HJ := hide hj
      have HJI := hide hji
      clear hj hji
      gi_wp2
      refine hR.mono ?_
      rintro e W3 (⟨rfl, hJ3, hk3⟩ | ⟨rfl, hJx3⟩)
      · gi_wp2
        go_roundw
        case rel => exact ⟨k + 1, by omega, by have := HJI.out; rw [show (5 : Int) - ((k + 1 : Nat) : Int) = (j : Int) - 1 by omega], by rw [downTo_succ]; simpa [← HJ.out] using hJ3, hnx.trans hk3⟩
        case measure => simp [intOf]
      · gi_wp2
        refine bodyPost_ret (results_none rfl _ _ _) rfl ?_
        exact ⟨⟨_, rfl⟩, .inr ⟨_, ⟨k + 1, by omega, by rw [downTo_succ]; simp [← HJ.out]⟩, hJx3⟩⟩
    · obtain rfl : k = 6 := by omega
      gi_wp2
      go_end0
      exact ⟨⟨_, rfl⟩, .inl ⟨_, rfl, hJs⟩⟩

set_option maxHeartbeats 1000000 in
theorem back_in (F : Fence) (n : Nat) (hf : F.fn 50) (hro : F.round = none) (a : Option Addr) (len cap : Nat) (w : World) :
    CallsIn F n Tryz.prog 50 #[.slice a len cap] w fun e w' => e = .returned (.func (.func 76) #[] #[.pointer (some ⟨w.heap.size, 0, none⟩)]) ∧ w' = w.alloc (.cells #[.slice a len cap] 120) := by
  refine callsIn_of_wp Tryz.func50 rfl hf ?_ hro
  simp only [Tryz.ntmps50, List.size_toArray, List.length_cons, List.length_nil, Nat.reduceAdd, Nat.reduceSub, Array.replicate_succ, Array.replicate_zero, List.push_toArray, List.append_toArray, List.nil_append, List.cons_append]
  gi_wp2
  go_ret
  exact ⟨rfl, rfl⟩
end Go.Proofs.YtkncboinfcnklabGreatDoor

namespace Go.Proofs.YtkncboinfcnklabGreatDoor
open Go.RowKit Go.Deep Go.Shelf

/-- A whole row that is owned (or none) is appended to a row that is owned. -/
theorem run_append_any {P : Program} (w : World) (base base2 : Nat) (t ty e : TypeId) (i : TypeInfo) (z : Value) (size bytes : Nat) (h1 : P.underlying t = some (.slice e)) (h2 : P.info? e = some i) (h3 : i.zero = some z) (h4 : i.size = size) (h5 : i.bytes = bytes) (h6 : z.cells.size = size) (h7 : 0 < size)
    (v : Value) (k : Nat) (xs : List Value) (hown : w.ownsRow base e size v k xs) (u : Value) (m : Nat) (news : List Value) (hu : w.ownsRow base2 e size u m news) (h1c : ∀ u ∈ news, u.oneCell' = true) (b1 : k + m ≤ maxLen) (b2 : (k + m) * bytes ≤ 140737488355328) (b3 : base ≤ w.heap.size) :
    ∃ v' w', (Builtin.append_ #[t, t] ty #[v, u]).run P w = .ok v' w' ∧ w'.ownsRow base e size v' (k + m) (xs ++ news) ∧ w.grownBy w' v.ownBlock := by
  rcases hu.2 with ⟨rfl, rfl⟩ | ⟨g, cap, cur, rfl, _, hgb, hcc, hmm, _, _⟩
  · have hn : news = [] := List.eq_nil_of_length_eq_zero (by simpa using hu.1)
    subst hn
    exact ⟨v, w, run_append_owned_none w base t ty e i size h1 h2 v k xs hown, by simpa using hown, World.grownBy.refl _ _⟩
  · obtain ⟨v', w', hr, r1, r2, _⟩ := run_append_own (P := P) w base t ty e i z size bytes h1 h2 h3 h4 h5 h6 h7 v k xs hown ⟨g, 0, none⟩ m cap news hu.1 (fun j u hj => by
      rw [Addr.add_lit, Nat.zero_add]
      exact own_get hu hj) h1c b1 b2 b3
    exact ⟨v', w', hr, r1, r2⟩

theorem wpListIn_append_any {F : Fence} {n : Nat} {P : Program} (w : World) {ops : Array Oper} {rest : List Oper} {o : Oper} {a : Act} {Q : Exit → Act → World → Prop}
    (hg : o.guard = none) (s x : Operand) (t : TypeId) (hop : o.op = Op.call { callee := Callee.builtin Builtin.append, args := #[s, x], argTypes := #[t, t] })
    (base base2 : Nat) (e : TypeId) (i : TypeInfo) (z : Value) (size bytes : Nat) (h1 : P.underlying t = some (.slice e)) (h2 : P.info? e = some i) (h3 : i.zero = some z) (h4 : i.size = size) (h5 : i.bytes = bytes) (h6 : z.cells.size = size) (h7 : 0 < size)
    (v : Value) (k : Nat) (xs : List Value) (hs : a.eval s = v) (hown : w.ownsRow base e size v k xs) (u : Value) (m : Nat) (news : List Value) (hx : a.eval x = u) (hu : w.ownsRow base2 e size u m news) (h1c : ∀ u ∈ news, u.oneCell' = true) (b1 : k + m ≤ maxLen) (b2 : (k + m) * bytes ≤ 140737488355328) (b3 : base ≤ w.heap.size)
    (hK : ∀ v' w', w'.ownsRow base e size v' (k + m) (xs ++ news) → w.grownBy w' v.ownBlock → wpListIn F n P ops Q rest (a.put o.dst v') w') :
    wpListIn F n P ops Q (o :: rest) a w := by
  refine wpListIn_plain hg fun K hK' => ?_
  obtain ⟨v', w', hrun, r1, r2⟩ := run_append_any (P := P) w base base2 t o.type e i z size bytes h1 h2 h3 h4 h5 h6 h7 v k xs hown u m news hu h1c b1 b2 b3
  unfold Oper.wpIn
  refine ⟨?_, ?_⟩
  · simp [Oper.about, hop, resolve, Target.leads, Sem.run_pure]
  · rw [Oper.semAt_plain F _ _ (by rw [hop]; intro c hc'; cases hc')]
    simp [execOp, hop, resolve, invoke, builtin, hs, hx, hrun, Result.andThen]
    exact hK' _ _ (hK v' w' r1 r2)

theorem wpList_append_any {P : Program} (w : World) {ops : Array Oper} {rest : List Oper} {o : Oper} {a : Act} {Q : Exit → Act → World → Prop}
    (hg : o.guard = none) (s x : Operand) (t : TypeId) (hop : o.op = Op.call { callee := Callee.builtin Builtin.append, args := #[s, x], argTypes := #[t, t] })
    (base base2 : Nat) (e : TypeId) (i : TypeInfo) (z : Value) (size bytes : Nat) (h1 : P.underlying t = some (.slice e)) (h2 : P.info? e = some i) (h3 : i.zero = some z) (h4 : i.size = size) (h5 : i.bytes = bytes) (h6 : z.cells.size = size) (h7 : 0 < size)
    (v : Value) (k : Nat) (xs : List Value) (hs : a.eval s = v) (hown : w.ownsRow base e size v k xs) (u : Value) (m : Nat) (news : List Value) (hx : a.eval x = u) (hu : w.ownsRow base2 e size u m news) (h1c : ∀ u ∈ news, u.oneCell' = true) (b1 : k + m ≤ maxLen) (b2 : (k + m) * bytes ≤ 140737488355328) (b3 : base ≤ w.heap.size)
    (hK : ∀ v' w', w'.ownsRow base e size v' (k + m) (xs ++ news) → w.grownBy w' v.ownBlock → wpList P ops Q rest (a.put o.dst v') w') :
    wpList P ops Q (o :: rest) a w := by
  refine wpList_plain hg fun K hK' => ?_
  obtain ⟨v', w', hrun, r1, r2⟩ := run_append_any (P := P) w base base2 t o.type e i z size bytes h1 h2 h3 h4 h5 h6 h7 v k xs hown u m news hu h1c b1 b2 b3
  unfold Oper.wp execOp
  simp only [hop, resolve, invoke, builtin, Sem.run_bind, Sem.run_pure, Result.andThen_ok, List.map_toArray, List.map_cons, List.map_nil, hs, hx, hrun]
  exact hK' _ _ (hK v' w' r1 r2)
end Go.Proofs.YtkncboinfcnklabGreatDoor
