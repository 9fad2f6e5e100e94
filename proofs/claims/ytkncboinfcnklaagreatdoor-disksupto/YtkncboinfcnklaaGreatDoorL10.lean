import Derived.Test.YtkncboinfcnklaaGreatDoorL9
namespace Go.Proofs.YtkncboinfcnklaaGreatDoor
open Go.RowKit Go.Deep Go.Proofs.YtkncboinfcnklaaGreatDoor.Mth

set_option maxHeartbeats 400000 in
theorem wholeE_nil (o : Value) (n c : Nat) (w : World) :
    Calls Tryz.prog 116 #[o, .slice none n c] w fun e w' => e = .returned (.bool true) ∧ w' = w := by
  have hnil : (binOp .eql 57 (.slice none n c) (.slice none 0 0)).run Tryz.prog w = .ok (.bool true) w := eql_nil w 57 66 none n c 0 0 Tryz.underlying57
  go_enter Tryz.func116, Tryz.ntmps116
  go_wp2
  go_ret
  exact ⟨rfl, rfl⟩

def wipedE (cs : List Value) (k : Nat) : List Value := (List.replicate k e5).flatten ++ cs.drop (k * 3)
theorem wipedE_set {cs : List Value} {k : Nat} (h : k * 3 + 3 ≤ cs.length) : (((wipedE cs k).set (k * 3) (.int .i64 (-5))).set (k * 3 + 1) (.int .i64 0)).set (k * 3 + 2) (.string ⟨#[]⟩) = wipedE cs (k + 1) := by
  unfold wipedE
  obtain ⟨x, y, z, hd⟩ := drop3 (cs := cs) (q := k * 3) h
  rw [hd, set3 _ _ _ _ _ _ _ _ _ (by rw [e5, flat_rep]), rep_snoc, show (k + 1) * 3 = k * 3 + 3 by omega]
  rfl
theorem wipedE_at {cs : List Value} {k j : Nat} (h : k * 3 ≤ j) : (wipedE cs k)[j]? = cs[j]? := by
  unfold wipedE
  rw [List.getElem?_append_right (by rw [e5, flat_rep]; exact h), e5, flat_rep, List.getElem?_drop]
  congr 1
  omega
theorem lentE_head {l : List Ent} {cs0 : List Value} {j : Nat} (h : j < l.length) : (lentE l cs0 3)[j * 3]? = some (.int .i64 (l.getD j e0).seq) ∧ (lentE l cs0 3)[j * 3 + 1]? = some (.int .i64 (l.getD j e0).time) ∧ (lentE l cs0 3)[j * 3 + 2]? = some (.string (l.getD j e0).text) := by
  obtain ⟨h0, h1, h2⟩ := eC_at h
  unfold lentE
  rw [List.append_assoc, List.getElem?_append_left (by rw [eC_len]; omega), List.getElem?_append_left (by rw [eC_len]; omega), List.getElem?_append_left (by rw [eC_len]; omega)]
  exact ⟨h0, h1, h2⟩
theorem lentE_tail {l : List Ent} {cs0 : List Value} {j : Nat} (h : l.length ≤ j) (h2 : j < l.length + 3) : (lentE l cs0 3)[j * 3]? = some (.int .i64 77) ∧ (lentE l cs0 3)[j * 3 + 1]? = some (.int .i64 0) ∧ (lentE l cs0 3)[j * 3 + 2]? = some (.string ⟨#[]⟩) := by
  obtain ⟨i, rfl⟩ : ∃ i, j = l.length + i := ⟨j - l.length, by omega⟩
  have hi : i < 3 := by omega
  have key : ∀ t, t < 3 → (lentE l cs0 3)[(l.length + i) * 3 + t]? = ((List.replicate 3 e77).flatten)[i * 3 + t]? := by
    intro t ht
    unfold lentE
    rw [List.getElem?_append_left (by rw [List.length_append, eC_len, e77, flat_rep]; omega), List.getElem?_append_right (by rw [eC_len]; omega), eC_len]
    congr 1
    omega
  have k0 := key 0 (by omega)
  have k1 := key 1 (by omega)
  have k2 := key 2 (by omega)
  rw [Nat.add_zero] at k0
  rw [k0, k1, k2]
  match i, hi with
  | 0, _ => exact ⟨rfl, rfl, rfl⟩
  | 1, _ => exact ⟨rfl, rfl, rfl⟩
  | 2, _ => exact ⟨rfl, rfl, rfl⟩

theorem only_below {w wr w2 : World} {r : Option Nat} (h : w.grownBy wr r) (hb : Below wr.heap.size wr w2) : w.grownBy w2 r :=
  ⟨hb.os.trans h.os, hb.tape.trans h.tape, hb.output.trans h.output, Nat.le_trans h.size hb.size, fun k hk hne => by rw [hb.block k (by have := h.size; omega)]; exact h.block k hk hne⟩
theorem below_only {B : Nat} {w0 w wr : World} {g : Nat} (hb : Below B w0 w) (h : w.grownBy wr (some g)) (hB : B ≤ w.heap.size) (hg : B ≤ g) : Below B w0 wr :=
  ⟨h.os.trans hb.os, h.tape.trans hb.tape, h.output.trans hb.output, Nat.le_trans hb.size h.size, fun k hk => by rw [h.block k (by omega) (by intro e; injection e with e; omega)]; exact hb.block k hk⟩

set_option maxRecDepth 100000 in
set_option maxHeartbeats 2000000 in
theorem wholeE_some (w0 w : World) (g : Nat) (ad : Addr) (c : Nat) (l : List Ent) (cs0 : List Value) (h0 : RdE w0 (.slice (some ad) l.length c) l) (hb : Below w0.heap.size w0 w) (hg : w0.heap.size ≤ g) (hl : l.length ≤ 1048576) (hcs : cs0.length = (l.length + 3) * 3) (hB : Blk w g 66 (lentE l cs0 3)) :
    Calls Tryz.prog 116 #[.slice (some ⟨g, 0, none⟩) l.length (l.length + 3), .slice (some ad) l.length c] w fun e w' => e = .returned (.bool true) ∧ w.grownBy w' (some g) := by
  have HR := hide h0
  have HB0 := hide hb
  have HBL := hide hB
  have HLL := hide (lentE_len (l := l) (cs0 := cs0) (k := 3) hcs (by omega))
  have HHD := hide (fun j h => lentE_head (l := l) (cs0 := cs0) (j := j) h)
  have HTL := hide (fun j h h2 => lentE_tail (l := l) (cs0 := cs0) (j := j) h h2)
  have hc : l.length ≤ c ∧ c ≤ maxLen := by obtain ⟨a', c', e, q1, q2, _⟩ := h0; injection e with _ _ e; subst e; exact ⟨q1, q2⟩
  obtain ⟨hc1, hc2⟩ := hc
  unfold maxLen at hc2
  have hsw := hb.size
  clear h0 hb hB hcs
  generalize lentE l cs0 3 = cs at *
  generalize hn : l.length = n at *
  have HN := hide hn
  clear hn
  have hnil : (binOp .eql 57 (.slice (some ad) n c) (.slice none 0 0)).run Tryz.prog w = .ok (.bool false) w := eql_nil w 57 66 (some ad) n c 0 0 Tryz.underlying57
  go_enter Tryz.func116, Tryz.ntmps116
  go_wp2_with fail
  clear hnil
  go_loopw [7, 8] (fun ok i wr => ∃ k : Nat, k ≤ n + 3 ∧ i = .int .i64 k ∧ ok = .bool true ∧ w.grownBy wr (some g) ∧ Blk wr g 66 (wipedE cs k)) (fun _ i _ => n + 3 - (intOf i).toNat)
  case atStart => exact ⟨0, by omega, rfl, rfl, only_refl _ _, by simpa [wipedE] using HBL.out⟩
  case round =>
    obtain ⟨k, hk, rfl, rfl, hgr, hbl⟩ := hrel
    have HG := hide hgr
    have HW := hide hbl
    clear hgr hbl
    by_cases hlt : k < n + 3
    · have HS := hide (wipedE_set (cs := cs) (k := k) (by rw [HLL.out]; omega))
      by_cases hin : k < n
      · obtain ⟨q0, q1, q2⟩ := HHD.out k hin
        obtain ⟨hc0, hf0⟩ := HW.out.at ((wipedE_at (by omega)).trans q0)
        obtain ⟨hc1', hf1⟩ := HW.out.at ((wipedE_at (by omega)).trans q1)
        obtain ⟨hc2', hf2⟩ := HW.out.at ((wipedE_at (by omega)).trans q2)
        obtain ⟨b, o, e, _, d0, d1, d2⟩ := rdE_at (HR.out.below (below_only HB0.out HG.out hsw hg)) k (by rw [HN.out]; exact hin)
        injection e with e
        subst e
        generalize l.getD k e0 = en at *
        obtain ⟨s, t, x⟩ := en
        simp only at hc0 hc1' hc2' d0 d1 d2
        have p0 := cell_regrown hc0
        have p1 := cell_regrown hc1'
        have p2 := cell_regrown hc2'
        have r0 := cell_regrown d0
        have r1 := cell_regrown d1
        have r2 := cell_regrown d2
        have z1 : (k : Int) < (n : Int) := by omega
        have z2 : decide (k < n) = true := by simp; omega
        clear hc0 hc1' hc2' d0 d1 d2 q0 q1 q2 hf0 hf1 hf2
        go_wp2
        refine wp_region_quiet_below (by kernel_rfl) (by kernel_rfl) ?_
        repeat (go_big_quiet_step (fail))
        refine wpQuiet_nil ?_
        intro _ hw'
        obtain ⟨⟨dq, osq⟩, hw''⟩ := hw'
        subst hw''
        have HBQ := hide (below_regrown wr dq osq)
        have HG2 := hide (only_below HG.out HBQ.out)
        have HW2 := hide (HW.out.below HBQ.out)
        clear p0 p1 p2 r0 r1 r2 HBQ
        generalize Sort.grow (redrawn wr dq) osq = w2 at *
        obtain ⟨q0, q1, q2⟩ := HHD.out k hin
        obtain ⟨hc0, hf0⟩ := HW2.out.at ((wipedE_at (by omega)).trans q0)
        obtain ⟨hc1', hf1⟩ := HW2.out.at ((wipedE_at (by omega)).trans q1)
        obtain ⟨hc2', hf2⟩ := HW2.out.at ((wipedE_at (by omega)).trans q2)
        clear q0 q1 q2 z2
        generalize l.getD k e0 = en2 at *
        go_wp2
        go_roundw
        case rel => exact ⟨k + 1, by omega, by go_num, rfl, only_put (only_put (only_put HG2.out)), by rw [← HS.out]; exact ((HW2.out.put (k * 3) _).put (k * 3 + 1) _).put (k * 3 + 2) _⟩
        case measure => simp [intOf]; omega
      · obtain ⟨q0, q1, q2⟩ := HTL.out k (by omega) (by omega)
        obtain ⟨hc0, hf0⟩ := HW.out.at ((wipedE_at (by omega)).trans q0)
        obtain ⟨hc1', hf1⟩ := HW.out.at ((wipedE_at (by omega)).trans q1)
        obtain ⟨hc2', hf2⟩ := HW.out.at ((wipedE_at (by omega)).trans q2)
        have p0 := cell_regrown hc0
        have p1 := cell_regrown hc1'
        have p2 := cell_regrown hc2'
        have z1 : ¬ (k : Int) < (n : Int) := by omega
        have z2 : decide (k < n) = false := by simp; omega
        have z3 : decide (n ≤ k) = true := by simp; omega
        have z4 : (n : Int) ≤ (k : Int) := by omega
        clear hc0 hc1' hc2' q0 q1 q2 hf0 hf1 hf2
        go_wp2
        refine wp_region_quiet_below (by kernel_rfl) (by kernel_rfl) ?_
        repeat (go_big_quiet_step (fail))
        refine wpQuiet_nil ?_
        intro _ hw'
        obtain ⟨⟨dq, osq⟩, hw''⟩ := hw'
        subst hw''
        have HBQ := hide (below_regrown wr dq osq)
        have HG2 := hide (only_below HG.out HBQ.out)
        have HW2 := hide (HW.out.below HBQ.out)
        clear p0 p1 p2 HBQ
        generalize Sort.grow (redrawn wr dq) osq = w2 at *
        obtain ⟨q0, q1, q2⟩ := HTL.out k (by omega) (by omega)
        obtain ⟨hc0, hf0⟩ := HW2.out.at ((wipedE_at (by omega)).trans q0)
        obtain ⟨hc1', hf1⟩ := HW2.out.at ((wipedE_at (by omega)).trans q1)
        obtain ⟨hc2', hf2⟩ := HW2.out.at ((wipedE_at (by omega)).trans q2)
        clear q0 q1 q2 z2 z3
        go_wp2
        go_roundw
        case rel => exact ⟨k + 1, by omega, by go_num, rfl, only_put (only_put (only_put HG2.out)), by rw [← HS.out]; exact ((HW2.out.put (k * 3) _).put (k * 3 + 1) _).put (k * 3 + 2) _⟩
        case measure => simp [intOf]; omega
    · go_wp2
      go_ret
      exact ⟨rfl, HG.out⟩
end Go.Proofs.YtkncboinfcnklaaGreatDoor
