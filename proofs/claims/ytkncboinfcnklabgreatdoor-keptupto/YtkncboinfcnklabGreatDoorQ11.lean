import Derived.Test.YtkncboinfcnklabGreatDoorQ10
import Derived.Test.YtkncboinfcnklabGreatDoorQ7
import Derived.Test.YtkncboinfcnklabGreatDoorQ5
namespace Go.Proofs.YtkncboinfcnklabGreatDoor
open Go.RowKit Go.Deep Go.Proofs.YtkncboinfcnklabGreatDoor.Mth

def canTick (clock : Nat) (n : Int) : Bool := decide (1 ≤ n) && (decide (n ≤ 1000) && decide (n ≤ 1000000000000 - (clock : Int)))

set_option maxHeartbeats 1000000 in
theorem jCan_any {w : World} {B jb db sb : Nat} {fs : List Fl} {left : Int} {fv : Value} {clock count : Nat} (h : JAt w B jb db sb fs left fv clock count) (n : Int) (hc : clock ≤ 1000000000000) :
    Calls Tryz.prog 70 #[.pointer (some ⟨jb, 0, none⟩), .int .i64 n] w fun e w' => e = .returned (.bool (canTick clock n)) ∧ w' = w := by
  obtain ⟨c1, _⟩ := cell_of (j := 1) (u := .int .i64 (clock : Int)) h.blk rfl
  clear h
  obtain ⟨bb, hbb⟩ : ∃ bb, bb = canTick clock n := ⟨_, rfl⟩
  rw [← hbb]
  have HBB := hide hbb
  clear hbb
  by_cases a : 1 ≤ n
  · by_cases b : n ≤ 1000
    · by_cases c : n ≤ 1000000000000 - (clock : Int)
      · have HT : Hid (bb = true) := by rw [HBB.out]; unfold canTick; show _ = _; rw [decide_eq_true a, decide_eq_true b, decide_eq_true c]; rfl
        go_enter Tryz.func70, Tryz.ntmps70
        go_wp2
        go_ret
        exact ⟨by rw [HT.out]; simp, rfl⟩
      · have HT : Hid (bb = false) := by rw [HBB.out]; unfold canTick; show _ = _; rw [decide_eq_true a, decide_eq_true b, decide_eq_false c]; rfl
        go_enter Tryz.func70, Tryz.ntmps70
        go_wp2
        go_ret
        exact ⟨by rw [HT.out]; simp, rfl⟩
    · have HT : Hid (bb = false) := by rw [HBB.out]; unfold canTick; show _ = _; rw [decide_eq_true a, decide_eq_false b]; rfl
      go_enter Tryz.func70, Tryz.ntmps70
      go_wp2
      go_ret
      exact ⟨by rw [HT.out]; simp, rfl⟩
  · have HT : Hid (bb = false) := by rw [HBB.out]; unfold canTick; show _ = _; rw [decide_eq_false a]; rfl
    go_enter Tryz.func70, Tryz.ntmps70
    go_wp2
    go_ret
    exact ⟨by rw [HT.out]; simp, rfl⟩

set_option maxRecDepth 100000 in
set_option maxHeartbeats 4000000 in
theorem jTick_yes {w : World} {B jb db sb : Nat} {dt : ByteArray} {sf : Nat} {left : Int} {fv : Value} {clock count : Nat} (h : JAt w B jb db sb (jf dt sf) left fv clock count) (hB : B ≤ w.heap.size) (h1 : -1 ≤ left) (h2 : left < 9223372036854775808) (q0 : left ≠ 0) (q1 : left ≠ 1)
    (n : Nat) (hn : n ≤ 1000) (hd : dt.size ≤ 1099511627776) (hc : clock ≤ 1000000000000) (ht : Tab10 w) :
    Calls Tryz.prog 71 #[.pointer (some ⟨jb, 0, none⟩), .int .i64 (n : Int)] w fun e w' => e = .returned (.bool true) ∧ ∃ fv', JStp w w' B jb db sb fv (jf (dt ++ recB 1 (itoaB n)) (dt ++ recB 1 (itoaB n)).size) (decL (decL left)) fv' (clock + n) count := by
  have CI := hide (itoa_any (n : Int) (by omega) (by omega) w ht)
  have hsz := itoaB_size (n : Int) (by omega) (by omega)
  have CW : Hid (∀ W, Below w.heap.size w W → _) := fun W hW => jWrite_yes (h.below hW) (Nat.le_trans hB hW.size) h1 h2 q0 q1 1 (by omega) (by omega) (itoaB n) (by omega) hd
  clear h hd h1 h2 q0 q1 ht hsz
  generalize dt ++ recB 1 (itoaB n) = dd at *
  generalize itoaB n = it at *
  generalize decL (decL left) = l2 at *
  go_enter Tryz.func71, Tryz.ntmps71
  go_wp2_with (first
    | (go_at_call 94; refine CI.out.mono ?_; rintro e w2 ⟨rfl, hb2⟩; have HB2 := hide hb2; clear hb2)
    | (go_at_call 90; refine (CW.out _ HB2.out).mono ?_; rintro e w3 ⟨rfl, fv3, hj3⟩; have HJ3 := hide (JStp.pre HB2.out hj3); obtain ⟨d1, f1⟩ := cell_of (j := 1) (u := .int .i64 (clock : Int)) hj3.j.blk rfl; clear hj3))
  go_ret
  exact ⟨rfl, fv3, HJ3.out.trans (HJ3.out.j.setNums 1 (clock + n) (clock + n) count (Or.inl ⟨rfl, rfl, rfl⟩))⟩
end Go.Proofs.YtkncboinfcnklabGreatDoor

namespace Go.Proofs.YtkncboinfcnklabGreatDoor
open Go.RowKit Go.Deep Go.Proofs.YtkncboinfcnklabGreatDoor.Mth

/-- The first worker of those with the longest list, of the first k. -/
def bst (ks : List Wk) : Nat → Nat
  | 0 => 0
  | i + 1 => if (ks.getD (bst ks i) wk0).list.length < (ks.getD i wk0).list.length then i else bst ks i
theorem bst_lt (ks : List Wk) : ∀ k, 0 < k → bst ks k < k
  | 0, h => by omega
  | 1, _ => by simp [bst]
  | i + 2, _ => by
    have := bst_lt ks (i + 1) (by omega)
    rw [bst]
    split <;> omega

set_option maxHeartbeats 1000000 in
theorem take1_any {w : World} {lb b1 b2 : Nat} {k1 k2 : Wk} (h1 : WkRd w lb b1 k1) (h2 : WkRd w lb b2 k2) (_hl1 : k1.list.length ≤ 100) (_hl2 : k2.list.length ≤ 100) :
    Calls Tryz.prog 109 #[.pointer (some ⟨b1, 0, none⟩), .pointer (some ⟨b2, 0, none⟩)] w fun e w' => ∃ r : Int, e = .returned (.int .i64 r) ∧ decide (0 < r) = decide (k2.list.length < k1.list.length) ∧ Below w.heap.size w w' := by
  obtain ⟨lv1, hb1, hr1⟩ := h1
  obtain ⟨lv2, hb2, hr2⟩ := h2
  obtain ⟨a1, c1, rfl, hc1, hm1, _⟩ := hr1
  obtain ⟨a2, c2, rfl, hc2, hm2, _⟩ := hr2
  obtain ⟨q1, _⟩ := cellG (j := 1) (u := .slice a1 k1.list.length c1) hb1 rfl
  obtain ⟨q2, _⟩ := cellG (j := 1) (u := .slice a2 k2.list.length c2) hb2 rfl
  obtain ⟨r, hr0, hr⟩ : ∃ r : Int, (∀ w, Calls Tryz.prog 101 #[.int .i64 (k1.list.length : Int), .int .i64 (k2.list.length : Int)] w fun e w' => e = .returned (.int .i64 r) ∧ w' = w) ∧ decide (0 < r) = decide (k2.list.length < k1.list.length) := by
    rcases Nat.lt_trichotomy k1.list.length k2.list.length with h | h | h
    · exact ⟨-1, fun w => WI.cmp_lt _ _ w (by omega), by rw [decide_eq_false (by omega), decide_eq_false (by omega)]⟩
    · exact ⟨0, fun w => by rw [h]; exact WI.cmp_eq _ w, by rw [decide_eq_false (by omega), decide_eq_false (by omega)]⟩
    · exact ⟨1, fun w => WI.cmp_gt _ _ w (by omega), by rw [decide_eq_true (by omega), decide_eq_true (by omega)]⟩
  have HR := hideG hr
  have CM := hideG hr0
  clear hr hr0 hb1 hb2
  generalize k1.list.length = n1 at *
  generalize k2.list.length = n2 at *
  go_enter Tryz.func109, Tryz.ntmps109
  go_wp2_with fail
  go_quiet (first
    | (go_at_call 101; exact Calls.quiet_of_same (CM.out _)))
  go_wp2
  go_ret
  exact ⟨r, rfl, HR.out, drewG w _⟩

set_option maxRecDepth 100000 in
set_option maxHeartbeats 1000000 in
theorem wkMax_any {w : World} {lb : Nat} {v : Value} {bs : List Nat} {ks : List Wk} (h : WksRd w lb v bs ks) (h0 : 0 < ks.length) (hl : ∀ j, j < ks.length → (ks.getD j wk0).list.length ≤ 100) :
    Calls Tryz.prog 108 #[v, .func (.func 109) #[] #[]] w fun e w' => e = .returned (.pointer (some ⟨bs.getD (bst ks ks.length) 0, 0, none⟩)) ∧ Below w.heap.size w w' := by
  obtain ⟨a, c, rfl, hc, hm, hp⟩ := h.row
  unfold maxLen at hm
  have hln := h.len
  have HH := hideG h
  have HLL := hideG hl
  rcases hp with hp | ⟨b, o, rfl, hp⟩
  · rw [hp] at hln; simp at hln; omega
  have HP := hideG hp
  clear h hl
  rw [hln] at hc
  generalize hn : ks.length = n at *
  have HN := hideG hn
  clear hn
  rw [hln]
  have HLN := hideG hln
  have d0 := hp 0 (by omega)
  rw [Nat.add_zero] at d0
  clear hln hp
  have HB1 : Hid (bst ks 1 = 0) := by show bst ks 1 = 0; simp [bst]
  have hb0 : Hid (bs.getD (bst ks 1) 0 = bs.getD 0 0) := by show _ = _; rw [HB1.out]
  go_enter Tryz.func108, Tryz.ntmps108
  go_wp2_with fail
  go_loopw [5, 6] (fun m i wr => ∃ k : Nat, 1 ≤ k ∧ k ≤ n ∧ i = .int .i64 k ∧ m = .pointer (some ⟨bs.getD (bst ks k) 0, 0, none⟩) ∧ Below w.heap.size w wr) (fun _ i _ => n - (intOf i).toNat)
  case atStart => exact ⟨1, by omega, by omega, rfl, by rw [hb0.out]; rfl, Below.refl _ _⟩
  case round =>
    obtain ⟨k, hk1, hk, rfl, rfl, hb⟩ := hrel
    have HBW := hideG hb
    clear hb d0
    by_cases hlt : k < n
    · have hbl := bst_lt ks k hk1
      have C1 := hideG (take1_any ((HH.out.one k (by rw [HN.out]; exact hlt)).below HBW.out) ((HH.out.one (bst ks k) (by rw [HN.out]; omega)).below HBW.out) (HLL.out k hlt) (HLL.out _ (by omega)))
      have d1 := HP.out k (by rw [HLN.out]; exact hlt)
      have d2 : wr.cell? ⟨b, o + k, none⟩ = some (.pointer (some ⟨bs.getD k 0, 0, none⟩)) := (HBW.out.cell (p := ⟨b, o + k, none⟩) (World.block_lt_of_cell? _ _ d1)).trans d1
      clear d1
      have HS : Hid (bst ks (k + 1) = if (ks.getD (bst ks k) wk0).list.length < (ks.getD k wk0).list.length then k else bst ks k) := by show _ = _; rw [bst]
      by_cases hq : (ks.getD (bst ks k) wk0).list.length < (ks.getD k wk0).list.length
      · rw [decide_eq_true hq] at C1
        have HS2 : Hid (bst ks (k + 1) = k) := by show _ = _; rw [HS.out, if_pos hq]
        clear hq HS hbl
        generalize bst ks k = m at *
        generalize hpb : bs.getD k 0 = pb at *
        have HPB := hideG hpb
        clear hpb
        generalize bs.getD m 0 = mb at *
        go_wp2_with (first | (go_at_call 109; refine C1.out.mono ?_; rintro e w2 ⟨r, rfl, hr, hb⟩; have hr2 : 0 < r := of_decide_eq_true hr; have HB2 := hideG (HBW.out.trans (hb.mono HBW.out.size)); have d3 : w2.cell? ⟨b, o + k, none⟩ = some (.pointer (some ⟨pb, 0, none⟩)) := (hb.cell (p := ⟨b, o + k, none⟩) (World.block_lt_of_cell? _ _ d2)).trans d2; clear hb hr))
        go_roundw
        case rel => exact ⟨k + 1, by omega, by omega, by go_num, by rw [HS2.out, HPB.out], HB2.out⟩
        case measure => simp [intOf]; omega
      · rw [decide_eq_false hq] at C1
        have HS2 : Hid (bst ks (k + 1) = bst ks k) := by show _ = _; rw [HS.out, if_neg hq]
        clear hq HS hbl
        generalize bst ks k = m at *
        generalize bs.getD k 0 = pb at *
        generalize hmb : bs.getD m 0 = mb at *
        have HMB := hideG hmb
        clear hmb
        go_wp2_with (first | (go_at_call 109; refine C1.out.mono ?_; rintro e w2 ⟨r, rfl, hr, hb⟩; have hr2 : ¬ 0 < r := of_decide_eq_false hr; have HB2 := hideG (HBW.out.trans (hb.mono HBW.out.size)); clear hb hr))
        go_roundw
        case rel => exact ⟨k + 1, by omega, by omega, by go_num, by rw [HS2.out, HMB.out], HB2.out⟩
        case measure => simp [intOf]; omega
    · have : k = n := by omega
      subst this
      go_wp2
      go_ret
      exact ⟨rfl, HBW.out⟩
end Go.Proofs.YtkncboinfcnklabGreatDoor

namespace Go.Proofs.YtkncboinfcnklabGreatDoor
open Go.RowKit Go.Deep Go.Proofs.YtkncboinfcnklabGreatDoor.Mth

/-! ### a log, as a value -/
structure Lg where
  memory : Nat
  fan : Nat
  back : Nat
  keep : Nat
  batch : Nat
  clock : Nat
  count : Nat
  mem : List Ent
  lev : Nat → List (List Ent)
  wks : List Wk
  tls : Int → Option (ByteArray × Nat)
  tn : Nat
  subs : Nat
/-- Where a log lies. -/
structure Gh where
  jb : Nat
  db : Nat
  sb : Nat
  fv : Value
  dt : ByteArray
  sf : Nat
  left : Int
  ms : Nat
  mm : Nat
  me : Value
  lr : Nat → Value
  bs : Nat → List Nat
  se : Nat → Value
  sm : Nat → Nat
  wr : Value
  wb : List Nat
  wl : Nat → Value
  tm : Nat
abbrev ptrV (b : Nat) : Value := .pointer (some ⟨b, 0, none⟩)
def lgC (G : Gh) (L : Lg) : Array Value := #[.int .i64 (L.memory : Int), .int .i64 (L.fan : Int), .int .i64 (L.back : Int), .int .i64 (L.wks.length : Int), .int .i64 (L.keep : Int), .int .i64 (L.batch : Int), ptrV G.jb, ptrV G.ms, G.lr 0, G.lr 1, G.lr 2, G.lr 3, G.lr 4, G.lr 5, G.wr, .map (some G.tm), .int .i64 (L.subs : Int)]
def tkC (x : Nat) : List Value := [.int .i64 (x : Int), .int .i64 ((x : Int) + 1)]
def tlV (p : ByteArray × Nat) : Value := .agg #[.string p.1, .int .i64 (p.2 : Int)]
abbrev zT : DataW Value := .held (.agg #[.string ⟨#[]⟩, .int .i64 0])

structure LHd (w : World) (ρ : Nat → Nat) (lb : Nat) (G : Gh) (L : Lg) : Prop where
  blk : w.heap[lb]? = some (Obj.cells (lgC G L) 78 (0, 0))
  rl : ρ lb = 1
structure LJ (w : World) (ρ : Nat → Nat) (B : Nat) (G : Gh) (L : Lg) : Prop where
  j : JAt w B G.jb G.db G.sb (jf G.dt G.sf) G.left G.fv L.clock L.count
  rl : ∀ k, ownJ G.jb G.db G.sb G.fv k → ρ k = 2
structure LM (w : World) (ρ : Nat → Nat) (B : Nat) (G : Gh) (L : Lg) : Prop where
  seg : SegAt w B G.ms L.mem G.me G.mm
  rl : ∀ k, ownS G.ms G.mm G.me k → ρ k = 3
structure LV (w : World) (ρ : Nat → Nat) (B : Nat) (G : Gh) (L : Lg) : Prop where
  row : ∀ i, i < 6 → w.ownsRow B 70 1 (G.lr i) (G.bs i).length ((G.bs i).map ptrV)
  len : ∀ i, i < 6 → (G.bs i).length = (L.lev i).length
  seg : ∀ i, i < 6 → ∀ j, j < (G.bs i).length → SegAt w B ((G.bs i).getD j 0) ((L.lev i).getD j []) (G.se ((G.bs i).getD j 0)) (G.sm ((G.bs i).getD j 0))
  rr : ∀ i, i < 6 → ∀ g, some g = (G.lr i).ownBlock → ρ g = 10 + i
  rs : ∀ i, i < 6 → ∀ j, j < (G.bs i).length → ∀ k, ownS ((G.bs i).getD j 0) (G.sm ((G.bs i).getD j 0)) (G.se ((G.bs i).getD j 0)) k → ρ k = 4
structure LW (w : World) (ρ : Nat → Nat) (B lb : Nat) (G : Gh) (L : Lg) : Prop where
  row : w.ownsRow B 93 1 G.wr G.wb.length (G.wb.map ptrV)
  len : G.wb.length = L.wks.length
  one : ∀ i, i < L.wks.length → w.heap[G.wb.getD i 0]? = some (Obj.cells (wkC lb (G.wb.getD i 0) (L.wks.getD i wk0) (G.wl i)) 110 (0, 0))
  lst : ∀ i, i < L.wks.length → w.ownsRow B 108 2 (G.wl i) (L.wks.getD i wk0).list.length ((L.wks.getD i wk0).list.flatMap tkC)
  ok : ∀ i, i < L.wks.length → WkOk (L.wks.getD i wk0) ∧ (L.wks.getD i wk0).list.Nodup
  few : 0 < L.wks.length ∧ L.wks.length ≤ 4
  ge : ∀ i, i < L.wks.length → B ≤ G.wb.getD i 0
  rw : ∀ g, some g = G.wr.ownBlock → ρ g = 5
  rb : ∀ i, i < L.wks.length → ρ (G.wb.getD i 0) = 20 + i
  rl : ∀ i, i < L.wks.length → ∀ g, some g = (G.wl i).ownBlock → ρ g = 20 + i
/-- The tails. -/
def TlsAt (w : World) (tm N : Nat) (tls : Int → Option (ByteArray × Nat)) (tn : Nat) : Prop :=
  ∃ D n, w.ownsMap Tryz.prog 3 idE tm n D ∧ n ≤ N ∧ Maps.size D = tn ∧ ∀ x : Int, (Maps.has D (.int .i64 x) = (tls x).isSome) ∧ ∀ p, tls x = some p → D.atKey (.int .i64 x) zT = .held (tlV p)
structure LT (w : World) (ρ : Nat → Nat) (B N : Nat) (G : Gh) (L : Lg) : Prop where
  map : TlsAt w G.tm N L.tls L.tn
  rl : ρ G.tm = 6
  ge : B ≤ G.tm
/-- A log lies in a world, but for its memory; its blocks bear numbers of their parts (0: not the log's). -/
structure LogX (w : World) (ρ : Nat → Nat) (B N lb : Nat) (G : Gh) (L : Lg) : Prop where
  b : LHd w ρ lb G L
  j : LJ w ρ B G L
  v : LV w ρ B G L
  k : LW w ρ B lb G L
  t : LT w ρ B N G L
  lt : ∀ k, ρ k ≠ 0 → k < w.heap.size ∧ B ≤ k
/-- A log lies in a world. -/
structure LogAt (w : World) (ρ : Nat → Nat) (B N lb : Nat) (G : Gh) (L : Lg) : Prop where
  x : LogX w ρ B N lb G L
  m : LM w ρ B G L

/-- Blocks with these numbers, and nodes, are as they were. -/
def Same (w w' : World) (ρ : Nat → Nat) (c : Nat → Prop) : Prop := ∀ g, (c (ρ g) ∨ isN w g) → w'.heap[g]? = w.heap[g]?
theorem Same.trans {w w1 w2 : World} {ρ ρ1 : Nat → Nat} {c : Nat} (hc : c ≠ 0) (h1 : Same w w1 ρ (fun d => d = c)) (hk : ∀ g, ρ g ≠ 0 → ρ1 g = ρ g) (h2 : Same w1 w2 ρ1 (fun d => d = c)) : Same w w2 ρ (fun d => d = c) := by
  intro g q
  have e1 := h1 g q
  refine (h2 g ?_).trans e1
  rcases q with q | q
  · exact Or.inl ((hk g (by rw [q]; exact hc)).trans q)
  · obtain ⟨C, fr, hC⟩ := q
    exact Or.inr ⟨C, fr, e1.trans hC⟩
theorem Same.below {w w' : World} {ρ : Nat → Nat} {B c : Nat} (hl : ∀ k, ρ k ≠ 0 → k < w.heap.size ∧ B ≤ k) (hc : c ≠ 0) (hb : Below w.heap.size w w') : Same w w' ρ (fun d => d = c) := by
  intro g q
  refine hb.block g ?_
  rcases q with q | q
  · exact (hl g (by rw [q]; exact hc)).1
  · exact isN_lt q
theorem LHd.same {w w' : World} {ρ : Nat → Nat} {lb : Nat} {G : Gh} {L : Lg} (h : LHd w ρ lb G L) (hs : Same w w' ρ (fun c => c = 1)) : LHd w' ρ lb G L := ⟨(hs lb (Or.inl h.rl)).trans h.blk, h.rl⟩
theorem LJ.same {w w' : World} {ρ : Nat → Nat} {B : Nat} {G : Gh} {L : Lg} (h : LJ w ρ B G L) (hs : Same w w' ρ (fun c => c = 2)) : LJ w' ρ B G L := ⟨h.j.same (fun g hg => hs g (Or.inl (h.rl g hg))), h.rl⟩
theorem LM.same {w w' : World} {ρ : Nat → Nat} {B : Nat} {G : Gh} {L : Lg} (h : LM w ρ B G L) (hs : Same w w' ρ (fun c => c = 3)) : LM w' ρ B G L := ⟨h.seg.same (fun g hg => hs g (hg.imp (fun q => h.rl g q) id)), h.rl⟩
theorem LV.same {w w' : World} {ρ : Nat → Nat} {B : Nat} {G : Gh} {L : Lg} (h : LV w ρ B G L) (hs : Same w w' ρ (fun c => c = 4 ∨ ∃ i, i < 6 ∧ c = 10 + i)) : LV w' ρ B G L :=
  ⟨fun i hi => own_same (h.row i hi) (fun g hg => hs g (Or.inl (Or.inr ⟨i, hi, h.rr i hi g hg⟩))), h.len, fun i hi j hj => (h.seg i hi j hj).same (fun g hg => hs g (hg.imp (fun q => Or.inl (h.rs i hi j hj g q)) id)), h.rr, h.rs⟩
theorem LW.same {w w' : World} {ρ : Nat → Nat} {B lb : Nat} {G : Gh} {L : Lg} (h : LW w ρ B lb G L) (hs : Same w w' ρ (fun c => c = 5 ∨ ∃ i, i < L.wks.length ∧ c = 20 + i)) : LW w' ρ B lb G L :=
  ⟨own_same h.row (fun g hg => hs g (Or.inl (Or.inl (h.rw g hg)))), h.len, fun i hi => (hs _ (Or.inl (Or.inr ⟨i, hi, h.rb i hi⟩))).trans (h.one i hi), fun i hi => own_same (h.lst i hi) (fun g hg => hs g (Or.inl (Or.inr ⟨i, hi, h.rl i hi g hg⟩))), h.ok, h.few, h.ge, h.rw, h.rb, h.rl⟩
theorem TlsAt.same {w w' : World} {tm N : Nat} {tls : Int → Option (ByteArray × Nat)} {tn : Nat} (h : TlsAt w tm N tls tn) (hs : w'.heap[tm]? = w.heap[tm]?) : TlsAt w' tm N tls tn := by
  obtain ⟨D, n, ⟨es, c, hb, F⟩, h2⟩ := h
  exact ⟨D, n, ⟨es, c, hs.trans hb, F⟩, h2⟩
theorem LT.same {w w' : World} {ρ : Nat → Nat} {B N : Nat} {G : Gh} {L : Lg} (h : LT w ρ B N G L) (hs : Same w w' ρ (fun c => c = 6)) : LT w' ρ B N G L := ⟨h.map.same (hs G.tm (Or.inl h.rl)), h.rl, h.ge⟩
/-! other numbers for new blocks -/
theorem LHd.role {w : World} {ρ ρ' : Nat → Nat} {lb : Nat} {G : Gh} {L : Lg} (h : LHd w ρ lb G L) (hr : ∀ g, ρ g = 1 → ρ' g = 1) : LHd w ρ' lb G L := ⟨h.blk, hr _ h.rl⟩
theorem LJ.role {w : World} {ρ ρ' : Nat → Nat} {B : Nat} {G : Gh} {L : Lg} (h : LJ w ρ B G L) (hr : ∀ g, ρ g = 2 → ρ' g = 2) : LJ w ρ' B G L := ⟨h.j, fun k q => hr k (h.rl k q)⟩
theorem LM.role {w : World} {ρ ρ' : Nat → Nat} {B : Nat} {G : Gh} {L : Lg} (h : LM w ρ B G L) (hr : ∀ g, ρ g = 3 → ρ' g = 3) : LM w ρ' B G L := ⟨h.seg, fun k q => hr k (h.rl k q)⟩
theorem LV.role {w : World} {ρ ρ' : Nat → Nat} {B : Nat} {G : Gh} {L : Lg} (h : LV w ρ B G L) (hr : ∀ g, (ρ g = 4 ∨ ∃ i, i < 6 ∧ ρ g = 10 + i) → ρ' g = ρ g) : LV w ρ' B G L :=
  ⟨h.row, h.len, h.seg, fun i hi g hg => (hr g (Or.inr ⟨i, hi, h.rr i hi g hg⟩)).trans (h.rr i hi g hg), fun i hi j hj k hk => (hr k (Or.inl (h.rs i hi j hj k hk))).trans (h.rs i hi j hj k hk)⟩
theorem LW.role {w : World} {ρ ρ' : Nat → Nat} {B lb : Nat} {G : Gh} {L : Lg} (h : LW w ρ B lb G L) (hr : ∀ g, (ρ g = 5 ∨ ∃ i, i < L.wks.length ∧ ρ g = 20 + i) → ρ' g = ρ g) : LW w ρ' B lb G L :=
  ⟨h.row, h.len, h.one, h.lst, h.ok, h.few, h.ge, fun g hg => (hr g (Or.inl (h.rw g hg))).trans (h.rw g hg), fun i hi => (hr _ (Or.inr ⟨i, hi, h.rb i hi⟩)).trans (h.rb i hi), fun i hi g hg => (hr g (Or.inr ⟨i, hi, h.rl i hi g hg⟩)).trans (h.rl i hi g hg)⟩
theorem LT.role {w : World} {ρ ρ' : Nat → Nat} {B N : Nat} {G : Gh} {L : Lg} (h : LT w ρ B N G L) (hr : ∀ g, ρ g = 6 → ρ' g = 6) : LT w ρ' B N G L := ⟨h.map, hr _ h.rl, h.ge⟩

/-- What a call may change of what was there: the log's own blocks, and none that holds a node. -/
structure LStp (w w' : World) (ρ ρ' : Nat → Nat) : Prop where
  tch : Tch (fun k => ρ k ≠ 0 ∧ ¬ isN w k) w w'
  old : ∀ k, k < w.heap.size → ρ k = 0 → ρ' k = 0
theorem LStp.nodes {w w' : World} {ρ ρ' : Nat → Nat} (h : LStp w w' ρ ρ') : ∀ g, isN w g → w'.heap[g]? = w.heap[g]? := fun g hg => h.tch.block g (isN_lt hg) (fun q => q.2 hg)
theorem LStp.trans {w w1 w2 : World} {ρ ρ1 ρ2 : Nat → Nat} (h1 : LStp w w1 ρ ρ1) (h2 : LStp w1 w2 ρ1 ρ2) : LStp w w2 ρ ρ2 := by
  refine ⟨h1.tch.trans h2.tch (fun k hk q => ?_), fun k hk q => h2.old k (Nat.lt_of_lt_of_le hk h1.tch.size) (h1.old k hk q)⟩
  refine ⟨fun q0 => q.1 (h1.old k hk q0), fun qn => q.2 ?_⟩
  obtain ⟨C, fr, hC⟩ := qn
  exact ⟨C, fr, (h1.nodes k ⟨C, fr, hC⟩).trans hC⟩
theorem LStp.below {w w1 w2 : World} {ρ ρ1 : Nat → Nat} (h1 : LStp w w1 ρ ρ1) (hb : Below w1.heap.size w1 w2) : LStp w w2 ρ ρ1 := h1.trans ⟨tch_below hb, fun _ _ q => q⟩
theorem LStp.pre {w w1 w2 : World} {ρ ρ1 : Nat → Nat} (hb : Below w.heap.size w w1) (h1 : LStp w1 w2 ρ ρ1) : LStp w w2 ρ ρ1 := (⟨tch_below hb, fun _ _ q => q⟩ : LStp w w1 ρ ρ).trans h1
theorem below_lstp {w w' W0 : World} {ρ ρ' : Nat → Nat} {B : Nat} (hb : Below B W0 w) (h : LStp w w' ρ ρ') (hl : ∀ k, ρ k ≠ 0 → k < w.heap.size ∧ B ≤ k) (hB : B ≤ w.heap.size) : Below B W0 w' := below_tch hb h.tch (fun k q => (hl k q.1).2) hB

theorem LogX.same {w w' : World} {ρ : Nat → Nat} {B N lb : Nat} {G : Gh} {L : Lg} (h : LogX w ρ B N lb G L) (hs : ∀ g, (ρ g ≠ 0 ∨ isN w g) → w'.heap[g]? = w.heap[g]?) (hz : w.heap.size ≤ w'.heap.size) : LogX w' ρ B N lb G L :=
  ⟨h.b.same fun g q => hs g (q.imp (fun q => by omega) id), h.j.same fun g q => hs g (q.imp (fun q => by omega) id), h.v.same fun g q => hs g (q.imp (fun q => by rcases q with q | ⟨i, _, q⟩ <;> omega) id), h.k.same fun g q => hs g (q.imp (fun q => by rcases q with q | ⟨i, _, q⟩ <;> omega) id), h.t.same fun g q => hs g (q.imp (fun q => by omega) id), fun k q => ⟨Nat.lt_of_lt_of_le (h.lt k q).1 hz, (h.lt k q).2⟩⟩
theorem LogX.below {w w' : World} {ρ : Nat → Nat} {B N lb : Nat} {G : Gh} {L : Lg} (h : LogX w ρ B N lb G L) (hb : Below w.heap.size w w') : LogX w' ρ B N lb G L :=
  h.same (fun g q => hb.block g (by rcases q with q | q; exact (h.lt g q).1; exact isN_lt q)) hb.size
theorem LogAt.same {w w' : World} {ρ : Nat → Nat} {B N lb : Nat} {G : Gh} {L : Lg} (h : LogAt w ρ B N lb G L) (hs : ∀ g, (ρ g ≠ 0 ∨ isN w g) → w'.heap[g]? = w.heap[g]?) (hz : w.heap.size ≤ w'.heap.size) : LogAt w' ρ B N lb G L :=
  ⟨h.x.same hs hz, h.m.same fun g q => hs g (q.imp (fun q => by omega) id)⟩
theorem LogAt.below {w w' : World} {ρ : Nat → Nat} {B N lb : Nat} {G : Gh} {L : Lg} (h : LogAt w ρ B N lb G L) (hb : Below w.heap.size w w') : LogAt w' ρ B N lb G L :=
  h.same (fun g q => hb.block g (by rcases q with q | q; exact (h.x.lt g q).1; exact isN_lt q)) hb.size

/-- The numbers of blocks, where new ones of P bear c. -/
noncomputable def ext (ρ : Nat → Nat) (n : Nat) (P : Nat → Prop) (c : Nat) (k : Nat) : Nat := by
  classical
  exact if k < n then ρ k else if P k then c else 0
theorem ext_old {ρ : Nat → Nat} {n : Nat} {P : Nat → Prop} {c k : Nat} (h : k < n) : ext ρ n P c k = ρ k := by
  unfold ext
  rw [if_pos h]
theorem ext_new {ρ : Nat → Nat} {n : Nat} {P : Nat → Prop} {c k : Nat} (h : n ≤ k) (hp : P k) : ext ρ n P c k = c := by
  unfold ext
  rw [if_neg (by omega), if_pos hp]
theorem ext_lt {ρ : Nat → Nat} {n m B : Nat} {P : Nat → Prop} {c : Nat} (h : ∀ k, ρ k ≠ 0 → k < n ∧ B ≤ k) (hm : n ≤ m) (hB : B ≤ n) (hP : ∀ k, P k → k < m) : ∀ k, ext ρ n P c k ≠ 0 → k < m ∧ B ≤ k := by
  intro k q
  by_cases hk : k < n
  · rw [ext_old hk] at q
    have := h k q
    omega
  · by_cases hp : P k
    · have := hP k hp
      omega
    · unfold ext at q
      rw [if_neg hk, if_neg hp] at q
      exact absurd rfl q
theorem ext_keep {ρ : Nat → Nat} {n B : Nat} {P : Nat → Prop} {c : Nat} (h : ∀ k, ρ k ≠ 0 → k < n ∧ B ≤ k) : ∀ g, ρ g ≠ 0 → ext ρ n P c g = ρ g := fun g q => ext_old (h g q).1

/-- A step of one part: all others are as they were. -/
theorem LogX.others {w w' : World} {ρ : Nat → Nat} {B N lb : Nat} {G : Gh} {L : Lg} (h : LogX w ρ B N lb G L) {S : Nat → Prop} (ht : Tch S w w') {c : Nat} (hS : ∀ k, S k → ρ k = c ∧ ¬ isN w k) :
    (∀ d : Nat → Prop, ¬ d c → ¬ d 0 → Same w w' ρ d) := by
  intro d hd h0 g q
  have hlt : g < w.heap.size := by
    rcases q with q | q
    · exact (h.lt g (fun e => h0 (by rw [e] at q; exact q))).1
    · exact isN_lt q
  refine ht.block g hlt (fun s => ?_)
  obtain ⟨s1, s2⟩ := hS g s
  rcases q with q | q
  · rw [s1] at q; exact hd q
  · exact s2 q
end Go.Proofs.YtkncboinfcnklabGreatDoor

namespace Go.Proofs.YtkncboinfcnklabGreatDoor
open Go.RowKit Go.Deep Go.Proofs.YtkncboinfcnklabGreatDoor.Mth

theorem cells_ne {w : World} {k k' : Nat} {C C' : Array Value} {t t' : TypeId} {fr fr' : Nat × Nat} (h : w.heap[k]? = some (Obj.cells C t fr)) (h' : w.heap[k']? = some (Obj.cells C' t' fr')) (hne : t ≠ t') : k ≠ k' := by
  intro q
  rw [q, h'] at h
  injection h with h
  injection h with _ h _
  exact hne h.symm
theorem notN {w : World} {k : Nat} {C : Array Value} {t : TypeId} {fr : Nat × Nat} (h : w.heap[k]? = some (Obj.cells C t fr)) (hne : t ≠ 172) : ¬ isN w k := fun ⟨_C', _fr', q⟩ => cells_ne h q hne rfl

/-- A cell of the log's own block is written. -/
theorem head_set {w : World} {ρ : Nat → Nat} {B N lb : Nat} {G G' : Gh} {L L' : Lg} (hb : LHd w ρ lb G L) (hlt : ∀ k, ρ k ≠ 0 → k < w.heap.size ∧ B ≤ k) (j : Nat) (v : Value) (hC : (lgC G L).setIfInBounds j v = lgC G' L') (hj : LJ w ρ B G' L') (hv : LV w ρ B G' L') (hk : LW w ρ B lb G' L') (ht : LT w ρ B N G' L') :
    LogX (w.setCell ⟨lb, j, none⟩ v) ρ B N lb G' L' ∧ LStp w (w.setCell ⟨lb, j, none⟩ v) ρ ρ := by
  have hn := notN hb.blk (by decide)
  have hs : ∀ d : Nat → Prop, ¬ d 1 → Same w (w.setCell ⟨lb, j, none⟩ v) ρ d := by
    intro d hd g q
    refine set_other (fun e => ?_)
    subst e
    rcases q with q | q
    · rw [hb.rl] at q; exact hd q
    · exact hn q
  refine ⟨⟨⟨?_, hb.rl⟩, hj.same (hs _ (by omega)), hv.same (hs _ (by omega)), hk.same (hs _ (by omega)), ht.same (hs _ (by omega)), fun k q => by simpa using hlt k q⟩, ⟨rfl, rfl, rfl, by simp, fun k _ q => set_other (fun e => q ⟨by rw [e, hb.rl]; omega, by rw [e]; exact hn⟩)⟩, fun _ _ q => q⟩
  rw [setCell_blk hb.blk, hC]

/-- The journal has taken a step. -/
theorem LogX.jStep {w w' : World} {ρ : Nat → Nat} {B N lb : Nat} {G : Gh} {L : Lg} (h : LogX w ρ B N lb G L) (hB : B ≤ w.heap.size) {dt' : ByteArray} {sf' : Nat} {left' : Int} {fv' : Value} {clock' count' : Nat} (hj : JStp w w' B G.jb G.db G.sb G.fv (jf dt' sf') left' fv' clock' count') :
    LogX w' (ext ρ w.heap.size (fun k => some k = fv'.ownBlock) 2) B N lb { G with fv := fv', dt := dt', sf := sf', left := left' } { L with clock := clock', count := count' } ∧ LStp w w' ρ (ext ρ w.heap.size (fun k => some k = fv'.ownBlock) 2) ∧ (∀ d : Nat → Prop, ¬ d 2 → ¬ d 0 → Same w w' ρ d) := by
  have hS : ∀ k, ownJ G.jb G.db G.sb G.fv k → ρ k = 2 ∧ ¬ isN w k := fun k q => ⟨h.j.rl k q, (h.j.j.ownLt q).2.2⟩
  have hs := h.others hj.tch hS
  have hk := ext_keep (P := fun k => some k = fv'.ownBlock) (c := 2) h.lt
  have xb := LHd.role (ρ := ρ) (h.b.same (hs _ (by omega) (by omega))) (fun g q => (hk g (by omega)).trans q)
  have xv := LV.role (ρ := ρ) (h.v.same (hs _ (by omega) (by omega))) (fun g q => hk g (by rcases q with q | ⟨i, _, q⟩ <;> omega))
  have xk := LW.role (ρ := ρ) (h.k.same (hs _ (by omega) (by omega))) (fun g q => hk g (by rcases q with q | ⟨i, _, q⟩ <;> omega))
  have xt := LT.role (ρ := ρ) (h.t.same (hs _ (by omega) (by omega))) (fun g q => (hk g (by omega)).trans q)
  refine ⟨⟨⟨xb.blk, xb.rl⟩, ⟨hj.j, fun k q => ?_⟩, ⟨xv.row, xv.len, xv.seg, xv.rr, xv.rs⟩, ⟨xk.row, xk.len, xk.one, xk.lst, xk.ok, xk.few, xk.ge, xk.rw, xk.rb, xk.rl⟩, ⟨xt.map, xt.rl, xt.ge⟩, ext_lt h.lt hj.tch.size hB (fun k q => (own_block hj.j.st.own q).2.1)⟩, ⟨hj.tch.mono (fun k _ q => ⟨by rw [(hS k q).1]; omega, (hS k q).2⟩), fun k hk2 q => by rw [ext_old hk2]; exact q⟩, hs⟩
  have hold : ∀ g, ownJ G.jb G.db G.sb G.fv g → ext ρ w.heap.size (fun k => some k = fv'.ownBlock) 2 g = 2 := fun g q => by rw [hk g (by rw [h.j.rl g q]; omega)]; exact h.j.rl g q
  rcases q with q | q | q | q
  · exact hold k (Or.inl q)
  · exact hold k (Or.inr (Or.inl q))
  · exact hold k (Or.inr (Or.inr (Or.inl q)))
  · rcases hj.new k q with q2 | q2
    · exact hold k (Or.inr (Or.inr (Or.inr q2)))
    · exact ext_new q2 q
theorem LogAt.jStep {w w' : World} {ρ : Nat → Nat} {B N lb : Nat} {G : Gh} {L : Lg} (h : LogAt w ρ B N lb G L) (hB : B ≤ w.heap.size) {dt' : ByteArray} {sf' : Nat} {left' : Int} {fv' : Value} {clock' count' : Nat} (hj : JStp w w' B G.jb G.db G.sb G.fv (jf dt' sf') left' fv' clock' count') :
    ∃ ρ', LogAt w' ρ' B N lb { G with fv := fv', dt := dt', sf := sf', left := left' } { L with clock := clock', count := count' } ∧ LStp w w' ρ ρ' := by
  obtain ⟨h1, h2, hs⟩ := h.x.jStep hB hj
  have hk := ext_keep (P := fun k => some k = fv'.ownBlock) (c := 2) h.x.lt
  have xm := LM.role (ρ := ρ) (h.m.same (hs _ (by omega) (by omega))) (fun g q => (hk g (by omega)).trans q)
  exact ⟨_, ⟨h1, ⟨xm.seg, xm.rl⟩⟩, h2⟩

/-- The memory has an entry more. -/
theorem LogAt.mStep {w w' : World} {ρ : Nat → Nat} {B N lb : Nat} {G : Gh} {L : Lg} (h : LogAt w ρ B N lb G L) (hB : B ≤ w.heap.size) {es' : List Ent} {me' : Value} (hm : SegStp w w' B G.ms G.mm G.me es' me') :
    ∃ ρ', LogAt w' ρ' B N lb { G with me := me' } { L with mem := es' } ∧ LStp w w' ρ ρ' := by
  have hS : ∀ k, ownS G.ms G.mm G.me k → ρ k = 3 ∧ ¬ isN w k := fun k q => ⟨h.m.rl k q, (h.m.seg.ownLt q).2.2⟩
  have hs := h.x.others hm.tch hS
  have hk := ext_keep (P := fun k => some k = me'.ownBlock) (c := 3) h.x.lt
  have xb := LHd.role (ρ := ρ) (h.x.b.same (hs _ (by omega) (by omega))) (fun g q => (hk g (by omega)).trans q)
  have xj := LJ.role (ρ := ρ) (h.x.j.same (hs _ (by omega) (by omega))) (fun g q => (hk g (by omega)).trans q)
  have xv := LV.role (ρ := ρ) (h.x.v.same (hs _ (by omega) (by omega))) (fun g q => hk g (by rcases q with q | ⟨i, _, q⟩ <;> omega))
  have xk := LW.role (ρ := ρ) (h.x.k.same (hs _ (by omega) (by omega))) (fun g q => hk g (by rcases q with q | ⟨i, _, q⟩ <;> omega))
  have xt := LT.role (ρ := ρ) (h.x.t.same (hs _ (by omega) (by omega))) (fun g q => (hk g (by omega)).trans q)
  refine ⟨ext ρ w.heap.size (fun k => some k = me'.ownBlock) 3, ⟨⟨⟨xb.blk, xb.rl⟩, ⟨xj.j, xj.rl⟩, ⟨xv.row, xv.len, xv.seg, xv.rr, xv.rs⟩, ⟨xk.row, xk.len, xk.one, xk.lst, xk.ok, xk.few, xk.ge, xk.rw, xk.rb, xk.rl⟩, ⟨xt.map, xt.rl, xt.ge⟩, ext_lt h.x.lt hm.tch.size hB (fun k q => (own_block hm.seg.own q).2.1)⟩, ⟨hm.seg, fun k q => ?_⟩⟩, ⟨hm.tch.mono (fun k _ q => ⟨by rw [(hS k q).1]; omega, (hS k q).2⟩), fun k hk2 q => by rw [ext_old hk2]; exact q⟩⟩
  have hold : ∀ g, ownS G.ms G.mm G.me g → ext ρ w.heap.size (fun k => some k = me'.ownBlock) 3 g = 3 := fun g q => by rw [hk g (by rw [h.m.rl g q]; omega)]; exact h.m.rl g q
  rcases q with q | q | q
  · exact hold k (Or.inl q)
  · rcases hm.new k q with q2 | q2
    · exact hold k (Or.inr (Or.inl q2))
    · exact ext_new q2 q
  · exact hold k (Or.inr (Or.inr q))

/-! ### a segment more in a level -/
noncomputable def Gh.put (G : Gh) (i : Nat) (v : Value) (s : Nat) (ev : Value) (mb : Nat) : Gh := { G with lr := fun j => if j = i then v else G.lr j, bs := fun j => if j = i then G.bs j ++ [s] else G.bs j, se := fun b => if b = s then ev else G.se b, sm := fun b => if b = s then mb else G.sm b }
def Lg.put (L : Lg) (i : Nat) (es : List Ent) : Lg := { L with lev := fun j => if j = i then L.lev j ++ [es] else L.lev j }
theorem lgC_put (G : Gh) (L : Lg) (i : Nat) (hi : i < 6) (v : Value) (s : Nat) (ev : Value) (mb : Nat) (es : List Ent) : (lgC G L).setIfInBounds (8 + i) v = lgC (G.put i v s ev mb) (L.put i es) := by
  rcases (show i = 0 ∨ i = 1 ∨ i = 2 ∨ i = 3 ∨ i = 4 ∨ i = 5 by omega) with rfl | rfl | rfl | rfl | rfl | rfl <;> simp [lgC, Gh.put, Lg.put]
theorem lgC_lr (G : Gh) (L : Lg) (i : Nat) (hi : i < 6) : (lgC G L)[8 + i]? = some (G.lr i) := by
  rcases (show i = 0 ∨ i = 1 ∨ i = 2 ∨ i = 3 ∨ i = 4 ∨ i = 5 by omega) with rfl | rfl | rfl | rfl | rfl | rfl <;> rfl

theorem LogX.putFin {w W5 : World} {ρ : Nat → Nat} {B N lb : Nat} {G : Gh} {L : Lg} (h : LogX w ρ B N lb G L) (hB : B ≤ w.heap.size) {i : Nat} (hi : i < 6) {s mb : Nat} {es : List Ent} {ev v5 : Value} {o : Obj} (hs : SegAt w B s es ev mb) (hr : ∀ k, ownS s mb ev k → ρ k = 4) (hn : ∀ i, i < 6 → ¬ s ∈ G.bs i)
    (o5 : W5.ownsRow B 70 1 v5 ((G.bs i).length + 1) ((G.bs i).map ptrV ++ [ptrV s])) (g6 : (w.alloc o).grownBy W5 (G.lr i).ownBlock) (n5 : v5.ownBlock = (G.lr i).ownBlock ∨ v5.ownBlock = some (w.alloc o).heap.size) :
    ∃ ρ', LogX (W5.setCell ⟨lb, 8 + i, none⟩ v5) ρ' B N lb (G.put i v5 s ev mb) (L.put i es) ∧ LStp w (W5.setCell ⟨lb, 8 + i, none⟩ v5) ρ ρ' ∧ (∀ g, ρ g ≠ 0 → ρ' g = ρ g) ∧ Same w (W5.setCell ⟨lb, 8 + i, none⟩ v5) ρ (fun c => c = 3) := by
  have ht : Tch (fun k => some k = (G.lr i).ownBlock) w W5 := ⟨g6.os, g6.tape, g6.output, by have := g6.size; simp at this; omega, fun k hk q => by rw [g6.block k (by simp; omega) q, Mth.hAO w o (r := k) hk]⟩
  have hS : ∀ k, some k = (G.lr i).ownBlock → ρ k = 10 + i ∧ ¬ isN w k := fun k q => by
    obtain ⟨_, _, D, hD⟩ := own_block (h.v.row i hi) q
    exact ⟨h.v.rr i hi k q, notN hD (by decide)⟩
  have hsm := h.others ht hS
  have hk := ext_keep (P := fun k => some k = v5.ownBlock) (c := 10 + i) h.lt
  have hlt := ext_lt (P := fun k => some k = v5.ownBlock) (c := 10 + i) h.lt ht.size hB (fun k q => (own_block o5 q).2.1)
  have hstp : LStp w W5 ρ (ext ρ w.heap.size (fun k => some k = v5.ownBlock) (10 + i)) := ⟨ht.mono (fun k _ q => ⟨by rw [(hS k q).1]; omega, (hS k q).2⟩), fun k hk2 q => by rw [ext_old hk2]; exact q⟩
  have hsegs : ∀ {s' mb' : Nat} {es' : List Ent} {ev' : Value}, SegAt w B s' es' ev' mb' → (∀ k, ownS s' mb' ev' k → ρ k = 4) → SegAt W5 B s' es' ev' mb' := fun hs' hr' => hs'.same (fun g q => hsm (fun c => c = 4) (by omega) (by omega) g (q.imp (fun q => hr' g q) id))
  have hse : ∀ i', i' < 6 → ∀ j, j < (G.bs i').length → (G.put i v5 s ev mb).se ((G.bs i').getD j 0) = G.se ((G.bs i').getD j 0) ∧ (G.put i v5 s ev mb).sm ((G.bs i').getD j 0) = G.sm ((G.bs i').getD j 0) := fun i' hi' j hj => by
    have hne : (G.bs i').getD j 0 ≠ s := fun q => hn i' hi' (by rw [← q]; exact getDmem hj)
    exact ⟨if_neg hne, if_neg hne⟩
  have hV : LV W5 (ext ρ w.heap.size (fun k => some k = v5.ownBlock) (10 + i)) B (G.put i v5 s ev mb) (L.put i es) := by
    refine ⟨fun i' hi' => ?_, fun i' hi' => ?_, fun i' hi' j hj => ?_, fun i' hi' g q => ?_, fun i' hi' j hj k q => ?_⟩
    · by_cases e : i' = i
      · subst e
        simp only [Gh.put, if_pos, List.length_append, List.length_singleton, List.map_append, List.map_cons, List.map_nil]
        exact o5
      · simp only [Gh.put, if_neg e]
        exact own_same (h.v.row i' hi') (fun g q => hsm (fun c => c = 10 + i') (by omega) (by omega) g (Or.inl (h.v.rr i' hi' g q)))
    · have := h.v.len i' hi'
      by_cases e : i' = i
      · simp [Gh.put, Lg.put, e]; rw [← e]; exact this
      · simp [Gh.put, Lg.put, e]; exact this
    · by_cases e : i' = i
      · subst e
        simp only [Gh.put, if_pos] at hj
        simp only [List.length_append, List.length_singleton] at hj
        have hb : (G.put i' v5 s ev mb).bs i' = G.bs i' ++ [s] := by simp [Gh.put]
        have hl : (L.put i' es).lev i' = L.lev i' ++ [es] := by simp [Lg.put]
        rw [hb, hl]
        by_cases hjl : j < (G.bs i').length
        · have g1 : (G.bs i' ++ [s]).getD j 0 = (G.bs i').getD j 0 := by simp [List.getD, List.getElem?_append_left hjl]
          have g2 : (L.lev i' ++ [es]).getD j [] = (L.lev i').getD j [] := by simp [List.getD, List.getElem?_append_left (show j < (L.lev i').length by rw [← h.v.len i' hi']; exact hjl)]
          rw [g1, g2, (hse i' hi' j hjl).1, (hse i' hi' j hjl).2]
          exact hsegs (h.v.seg i' hi' j hjl) (h.v.rs i' hi' j hjl)
        · have hje : j = (G.bs i').length := by omega
          have g1 : (G.bs i' ++ [s]).getD j 0 = s := by rw [hje]; simp [List.getD]
          have g2 : (L.lev i' ++ [es]).getD j [] = es := by rw [hje, h.v.len i' hi']; simp [List.getD]
          rw [g1, g2]
          simp only [Gh.put, if_pos]
          exact hsegs hs hr
      · have hb : (G.put i v5 s ev mb).bs i' = G.bs i' := by simp [Gh.put, e]
        have hl : (L.put i es).lev i' = L.lev i' := by simp [Lg.put, e]
        rw [hb] at hj ⊢
        rw [hl, (hse i' hi' j hj).1, (hse i' hi' j hj).2]
        exact hsegs (h.v.seg i' hi' j hj) (h.v.rs i' hi' j hj)
    · by_cases e : i' = i
      · subst e
        have q' : some g = v5.ownBlock := by simpa [Gh.put] using q
        rcases n5 with q5 | q5
        · rw [q5] at q'
          have := h.v.rr i' hi' g q'
          rw [hk g (by omega)]
          exact this
        · rw [q5] at q'
          injection q' with q'
          exact ext_new (by rw [q']; simp) (by rw [q5, q'])
      · have q' : some g = (G.lr i').ownBlock := by simpa [Gh.put, e] using q
        have := h.v.rr i' hi' g q'
        rw [hk g (by omega)]
        exact this
    · have h4 : ρ k = 4 := by
        by_cases e : i' = i
        · subst e
          simp only [Gh.put, if_pos] at hj
          simp only [List.length_append, List.length_singleton] at hj
          have hb : (G.put i' v5 s ev mb).bs i' = G.bs i' ++ [s] := by simp [Gh.put]
          rw [hb] at q
          by_cases hjl : j < (G.bs i').length
          · have g1 : (G.bs i' ++ [s]).getD j 0 = (G.bs i').getD j 0 := by simp [List.getD, List.getElem?_append_left hjl]
            rw [g1, (hse i' hi' j hjl).1, (hse i' hi' j hjl).2] at q
            exact h.v.rs i' hi' j hjl k q
          · have hje : j = (G.bs i').length := by omega
            have g1 : (G.bs i' ++ [s]).getD j 0 = s := by rw [hje]; simp [List.getD]
            rw [g1] at q
            simp only [Gh.put, if_pos] at q
            exact hr k q
        · have hb : (G.put i v5 s ev mb).bs i' = G.bs i' := by simp [Gh.put, e]
          rw [hb] at hj q
          rw [(hse i' hi' j hj).1, (hse i' hi' j hj).2] at q
          exact h.v.rs i' hi' j hj k q
      rw [hk k (by omega)]
      exact h4
  have hb5 : LHd W5 (ext ρ w.heap.size (fun k => some k = v5.ownBlock) (10 + i)) lb G L := LHd.role (ρ := ρ) (h.b.same (hsm _ (by omega) (by omega))) (fun g q => by rw [hk g (by omega)]; exact q)
  have xj := LJ.role (ρ := ρ) (h.j.same (hsm _ (by omega) (by omega))) (fun g q => (hk g (by omega)).trans q)
  have xk := LW.role (ρ := ρ) (h.k.same (hsm _ (by omega) (by omega))) (fun g q => hk g (by rcases q with q | ⟨i, _, q⟩ <;> omega))
  have xt := LT.role (ρ := ρ) (h.t.same (hsm _ (by omega) (by omega))) (fun g q => (hk g (by omega)).trans q)
  obtain ⟨r1, r2⟩ := head_set (N := N) hb5 hlt (8 + i) v5 (lgC_put G L i hi v5 s ev mb es) ⟨xj.j, xj.rl⟩ hV ⟨xk.row, xk.len, xk.one, xk.lst, xk.ok, xk.few, xk.ge, xk.rw, xk.rb, xk.rl⟩ ⟨xt.map, xt.rl, xt.ge⟩
  refine ⟨_, r1, hstp.trans r2, hk, fun g q => ?_⟩
  rw [set_other (fun e => ?_)]
  · exact hsm (fun c => c = 3) (by omega) (by omega) g q
  · subst e
    rcases q with q | q
    · rw [h.b.rl] at q; omega
    · exact notN h.b.blk (by decide) q
end Go.Proofs.YtkncboinfcnklabGreatDoor
