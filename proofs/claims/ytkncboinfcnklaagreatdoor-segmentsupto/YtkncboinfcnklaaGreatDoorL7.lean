import Derived.Test.YtkncboinfcnklaaGreatDoorL6
import Derived.Lib.BufferWrite
import Derived.Laws.CopyRow
import Derived.Laws.MakeOwn
namespace Go.Proofs.YtkncboinfcnklaaGreatDoor
open Go.RowKit Go.Deep Go.Proofs.YtkncboinfcnklaaGreatDoor.Mth

set_option maxRecDepth 100000 in
set_option maxHeartbeats 1000000 in
theorem sameTexts_any {v1 v2 : Value} {l : List ByteArray} {w : World} (h1 : Rd w v1 l) (h2 : Rd w v2 l) :
    Calls Tryz.prog 110 #[v1, v2] w fun e w' => e = .returned (.bool true) ∧ Below w.heap.size w w' := by
  obtain ⟨a1, c1, rfl, hc1, hm1⟩ := rd_len h1
  obtain ⟨a2, c2, rfl, hc2, hm2⟩ := rd_len h2
  unfold maxLen at hm1 hm2
  have HA := hide h1
  have HB := hide h2
  clear h1 h2
  generalize hn : l.length = n at *
  have HN := hide hn
  clear hn
  go_enter Tryz.func110, Tryz.ntmps110
  go_wp2_with fail
  go_loopw [5] (fun i wr => ∃ k : Nat, k ≤ n ∧ i = .int .i64 k ∧ Below w.heap.size w wr) (fun i _ => n - (intOf i).toNat)
  case atStart => exact ⟨0, Nat.zero_le _, rfl, Below.refl _ _⟩
  case round =>
    obtain ⟨k, hk, rfl, hb⟩ := hrel
    by_cases hlt : k < n
    · obtain ⟨b1, o1, rfl, _, d1⟩ := rd_at (HA.out.below hb) k (by rw [HN.out]; exact hlt)
      obtain ⟨b2, o2, rfl, _, d2⟩ := rd_at (HB.out.below hb) k (by rw [HN.out]; exact hlt)
      generalize l.getD k ByteArray.empty = x at *
      have d1' := cell_regrown d1
      have d2' := cell_regrown d2
      have HBB := hide hb
      clear hb d1 d2
      go_wp2
      refine wp_region_quiet_below (by kernel_rfl) (by kernel_rfl) ?_
      repeat (go_big_quiet_step (fail))
      refine wpQuiet_nil ?_
      intro _ hw'
      obtain ⟨⟨dq, osq⟩, hw''⟩ := hw'
      subst hw''
      have HB2 := hide (HBB.out.trans ((below_regrown wr dq osq).mono HBB.out.size))
      clear d1' d2'
      generalize Sort.grow (redrawn wr dq) osq = w2 at *
      go_wp2
      go_roundw
      case rel => exact ⟨k + 1, by omega, by go_num, HB2.out⟩
      case measure => simp [intOf]; omega
    · go_wp2
      go_ret
      exact ⟨rfl, hb⟩

set_option maxRecDepth 100000 in
set_option maxHeartbeats 1000000 in
theorem sameEntries_any {v1 v2 : Value} {l : List Ent} {w : World} (h1 : RdE w v1 l) (h2 : RdE w v2 l) :
    Calls Tryz.prog 120 #[v1, v2] w fun e w' => e = .returned (.bool true) ∧ Below w.heap.size w w' := by
  obtain ⟨a1, c1, rfl, hc1, hm1⟩ := rdE_len h1
  obtain ⟨a2, c2, rfl, hc2, hm2⟩ := rdE_len h2
  unfold maxLen at hm1 hm2
  have HA := hide h1
  have HB := hide h2
  clear h1 h2
  generalize hn : l.length = n at *
  have HN := hide hn
  clear hn
  go_enter Tryz.func120, Tryz.ntmps120
  go_wp2_with fail
  go_loopw [5] (fun i wr => ∃ k : Nat, k ≤ n ∧ i = .int .i64 k ∧ Below w.heap.size w wr) (fun i _ => n - (intOf i).toNat)
  case atStart => exact ⟨0, Nat.zero_le _, rfl, Below.refl _ _⟩
  case round =>
    obtain ⟨k, hk, rfl, hb⟩ := hrel
    by_cases hlt : k < n
    · obtain ⟨b1, o1, rfl, _, d0, d1, d2⟩ := rdE_at (HA.out.below hb) k (by rw [HN.out]; exact hlt)
      obtain ⟨b2, o2, rfl, _, g0, g1, g2⟩ := rdE_at (HB.out.below hb) k (by rw [HN.out]; exact hlt)
      generalize l.getD k e0 = e at *
      obtain ⟨s, t, x⟩ := e
      simp only at d0 d1 d2 g0 g1 g2
      have d0' := cell_regrown d0
      have d1' := cell_regrown d1
      have d2' := cell_regrown d2
      have g0' := cell_regrown g0
      have g1' := cell_regrown g1
      have g2' := cell_regrown g2
      have HBB := hide hb
      clear hb d0 d1 d2 g0 g1 g2
      go_wp2
      refine wp_region_quiet_below (by kernel_rfl) (by kernel_rfl) ?_
      repeat (go_big_quiet_step (fail))
      refine wpQuiet_nil ?_
      intro _ hw'
      obtain ⟨⟨dq, osq⟩, hw''⟩ := hw'
      subst hw''
      have HB2 := hide (HBB.out.trans ((below_regrown wr dq osq).mono HBB.out.size))
      clear d0' d1' d2' g0' g1' g2'
      generalize Sort.grow (redrawn wr dq) osq = w2 at *
      go_wp2
      go_roundw
      case rel => exact ⟨k + 1, by omega, by go_num, HB2.out⟩
      case measure => simp [intOf]; omega
    · go_wp2
      go_ret
      exact ⟨rfl, hb⟩

theorem made_rep (z : Value) (n : Nat) : madeCells #[z] n = Array.replicate n z := by
  apply Array.ext
  · simp [madeCells]
  · intro i h1 h2
    simp [madeCells] at h1 ⊢
    rw [Nat.mod_one]
    rfl

theorem mkB_at (w : World) (n : Nat) (hn : n ≤ 1048580) : (Instr.makeSlice 158 (.int .i64 (n : Int)) (.int .i64 (n : Int))).run Tryz.prog w = .ok (.slice (some ⟨w.heap.size, 0, none⟩) n n) (w.alloc (.cells (Array.replicate n (Value.int .u8 0)) 5)) := by
  obtain ⟨i0, hi0, hz0, hz1, hz2⟩ := info_parts Tryz.info5
  have := run_makeSlice (P := Tryz.prog) w 158 5 i0 (.int .u8 0) Tryz.underlying158 hi0 hz0 .i64 .i64 n n (by omega) (by omega) (by rw [hz1]; omega) (by rw [hz2]; omega) (by omega)
  rw [hz1, Int.toNat_natCast, Nat.mul_one] at this
  rw [this, show (Value.int IntKind.u8 0).cells = #[Value.int .u8 0] from rfl, made_rep]

/-- A block of the caller's. -/
def Blk (w : World) (g : Nat) (e : TypeId) (cs : List Value) : Prop := w.heap[g]? = some (Obj.cells cs.toArray e (0, 0))

theorem Blk.below {w w' : World} {g : Nat} {e : TypeId} {cs : List Value} (h : Blk w g e cs) (hb : Below w.heap.size w w') : Blk w' g e cs := (hb.block g (Array.getElem?_eq_some_iff.1 h).1).trans h
theorem Blk.at {w : World} {g : Nat} {e : TypeId} {cs : List Value} (h : Blk w g e cs) {j : Nat} {u : Value} (hu : cs[j]? = some u) : w.cell? ⟨g, j, none⟩ = some u ∧ w.frozen? ⟨g, j, none⟩ = false := cell_of h (by simpa using hu)
theorem Blk.put {w : World} {g : Nat} {e : TypeId} {cs : List Value} (h : Blk w g e cs) (j : Nat) (u : Value) : Blk (w.setCell ⟨g, j, none⟩ u) g e (cs.set j u) := by
  unfold Blk at h ⊢
  simp [World.setCell, Array.getElem?_modify, h]

/-- The bytes of a text, and three more of the caller's. -/
def lent (s : ByteArray) (k : Nat) : List Value := (tb s).map eB ++ (List.replicate k (Value.int .u8 77) ++ List.replicate (3 - k) (Value.int .u8 0))
theorem lent_len (s : ByteArray) (k : Nat) (h : k ≤ 3) : (lent s k).length = s.size + 3 := by
  unfold lent
  simp only [List.length_append, List.length_map, tb_len, List.length_replicate]
  omega
theorem lent_set (s : ByteArray) (k : Nat) (h : k < 3) : (lent s k).set (s.size + k) (.int .u8 77) = lent s (k + 1) := by
  unfold lent
  rw [List.set_append_right _ _ (by rw [List.length_map, tb_len]; omega), List.length_map, tb_len, show s.size + k - s.size = k by omega]
  match k, h with
  | 0, _ => rfl
  | 1, _ => rfl
  | 2, _ => rfl

set_option maxRecDepth 100000 in
set_option maxHeartbeats 1000000 in
theorem lentBytes_any (s : ByteArray) (w : World) (hs : s.size ≤ 1048576) :
    Calls Tryz.prog 117 #[.string s] w fun e w' => e = .returned (.slice (some ⟨w.heap.size, 0, none⟩) s.size (s.size + 3)) ∧ Below w.heap.size w w' ∧ Blk w' w.heap.size 5 (lent s 3) := by
  obtain ⟨i0, hi0, hz0, hz1, hz2⟩ := info_parts Tryz.info5
  have hmk := mkB_at w (s.size + 3) (by omega)
  rw [show ((s.size + 3 : Nat) : Int) = (s.size : Int) + 3 by omega] at hmk
  have hg0 : (w.alloc (.cells (Array.replicate (s.size + 3) (Value.int .u8 0)) 5)).heap[w.heap.size]? = some (.cells (Array.replicate (s.size + 3) (Value.int .u8 0)) 5 (0, 0)) := by
    show (w.heap.push _)[w.heap.size]? = _
    rw [Array.getElem?_push, if_pos rfl]
  have hcp := Lib.run_copy_row_string (P := Tryz.prog) (w.alloc (.cells (Array.replicate (s.size + 3) (Value.int .u8 0)) 5)) 158 9 3 5 w.heap.size 0 (s.size + 3) (s.size + 3) s (Array.replicate (s.size + 3) (Value.int .u8 0)) 5 Tryz.underlying158 (by rw [hi0]; simp [hz1]) hg0 (by omega) (by simp)
  have HB0 : Hid (Below w.heap.size w ((w.alloc (.cells (Array.replicate (s.size + 3) (Value.int .u8 0)) 5)).setRow w.heap.size ((Array.replicate (s.size + 3) (Value.int .u8 0)).toList.take 0 ++ Lib.byteCells s.data.toList ++ (Array.replicate (s.size + 3) (Value.int .u8 0)).toList.drop (0 + s.size)).toArray) ∧ Blk ((w.alloc (.cells (Array.replicate (s.size + 3) (Value.int .u8 0)) 5)).setRow w.heap.size ((Array.replicate (s.size + 3) (Value.int .u8 0)).toList.take 0 ++ Lib.byteCells s.data.toList ++ (Array.replicate (s.size + 3) (Value.int .u8 0)).toList.drop (0 + s.size)).toArray) w.heap.size 5 (lent s 0)) := by
    have hb := below_alloc w (.cells (Array.replicate (s.size + 3) (Value.int .u8 0)) 5)
    refine ⟨⟨hb.os, hb.tape, hb.output, by simp, fun k hk => ?_⟩, ?_⟩
    · rw [setRow_other _ _ k _ (by omega)]
      exact hb.block k hk
    · unfold Blk
      rw [setRow_heap _ _ _ _ _ _ hg0]
      congr 3
      unfold lent Lib.byteCells tb
      simp [List.map_map]
  generalize (w.alloc (.cells (Array.replicate (s.size + 3) (Value.int .u8 0)) 5)).setRow w.heap.size ((Array.replicate (s.size + 3) (Value.int .u8 0)).toList.take 0 ++ Lib.byteCells s.data.toList ++ (Array.replicate (s.size + 3) (Value.int .u8 0)).toList.drop (0 + s.size)).toArray = W0 at *
  have HCP := hide hcp
  clear hcp hg0
  go_enter Tryz.func117, Tryz.ntmps117
  go_wp2_with fail
  rw [HCP.out]
  go_wp2_with fail
  clear hmk HCP
  go_loopw [5] (fun i wr => ∃ k : Nat, k ≤ 3 ∧ i = .int .i64 ((s.size : Int) + k) ∧ Below w.heap.size w wr ∧ Blk wr w.heap.size 5 (lent s k)) (fun i _ => s.size + 3 - (intOf i).toNat)
  case atStart => exact ⟨0, by omega, by simp, HB0.out.1, HB0.out.2⟩
  case round =>
    obtain ⟨k, hk, rfl, hb, hbl⟩ := hrel
    have HB := hide hb
    have HBL := hide hbl
    clear hb hbl
    by_cases hlt : k < 3
    · obtain ⟨hcell, hfr⟩ := HBL.out.at (j := s.size + k) (u := (lent s k)[s.size + k]'(by rw [lent_len s k hk]; omega)) (by simp)
      generalize (lent s k)[s.size + k]'(by rw [lent_len s k hk]; omega) = y at *
      go_wp2
      go_roundw
      case rel => exact ⟨k + 1, by omega, by go_num, HB.out.setCell (Nat.le_refl _) _, by have := HBL.out.put (s.size + k) (.int .u8 77); rwa [lent_set s k hlt] at this⟩
      case measure => simp [intOf]; omega
    · have hke : k = 3 := by omega
      subst hke
      go_wp2
      go_ret
      exact ⟨rfl, HB.out, HBL.out⟩
end Go.Proofs.YtkncboinfcnklaaGreatDoor
