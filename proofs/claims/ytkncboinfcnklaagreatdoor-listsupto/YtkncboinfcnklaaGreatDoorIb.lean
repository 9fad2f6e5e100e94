import Derived.Test.YtkncboinfcnklaaGreatDoorIa
import Derived.Test.YtkncboinfcnklaaGreatDoorSb
import Derived.Test.YtkncboinfcnklaaGreatDoorRa
namespace Go.Proofs.YtkncboinfcnklaaGreatDoor.WI
open Go.RowKit Go.Deep Go.Proofs.YtkncboinfcnklaaGreatDoor.Mth

set_option maxHeartbeats 400000 in
theorem lent_nil (n c : Nat) (w : World) :
    Calls Tryz.prog 170 #[.slice none n c] w fun e w' => e = .returned (.slice none 0 0) ∧ w' = w := by
  have hnil : (binOp .eql 149 (.slice none n c) (.slice none 0 0)).run Tryz.prog w = .ok (.bool true) w := eql_nil w 149 3 none n c 0 0 Tryz.underlying149
  go_enter Tryz.func170, Tryz.ntmps170
  go_wp2
  go_ret
  exact ⟨rfl, rfl⟩
set_option maxHeartbeats 400000 in
theorem whole_nil (o : Value) (n c : Nat) (w : World) :
    Calls Tryz.prog 177 #[o, .slice none n c] w fun e w' => e = .returned (.bool true) ∧ w' = w := by
  have hnil : (binOp .eql 149 (.slice none n c) (.slice none 0 0)).run Tryz.prog w = .ok (.bool true) w := eql_nil w 149 3 none n c 0 0 Tryz.underlying149
  go_enter Tryz.func177, Tryz.ntmps177
  go_wp2
  go_ret
  exact ⟨rfl, rfl⟩

def m77 : Value := .int .i64 77
def m5 : Value := .int .i64 (-5)
theorem rd_src {w : World} {ad : Addr} {c : Nat} {l : List Int} (h : Rd w (.slice (some ad) l.length c) l) : ∀ j v, (l.map eI)[j]? = some v → w.cell? (ad.add j) = some v := by
  rcases rd_cases h with ⟨e, _⟩ | ⟨ad', c', e, h2, _, _⟩
  · cases e
  · injection e with e
    injection e with e
    subst e
    exact h2

set_option maxRecDepth 100000 in
set_option maxHeartbeats 1000000 in
theorem lent_some (ad : Addr) (c : Nat) (l : List Int) (w : World) (h : Rd w (.slice (some ad) l.length c) l) (hl : l.length ≤ 1048576) :
    Calls Tryz.prog 170 #[.slice (some ad) l.length c] w fun e w' => e = .returned (.slice (some ⟨w.heap.size, 0, none⟩) l.length (l.length + 3)) ∧ Below w.heap.size w w' ∧ ∃ cs0, cs0.length = l.length + 3 ∧ Blk w' w.heap.size 3 (lentV (l.map eI) cs0 m77 3) := by
  obtain ⟨i0, hi0, hz0, hz1, hz2⟩ := info_parts Tryz.info3
  have hmk := run_makeSlice (P := Tryz.prog) w 149 3 i0 _ Tryz.underlying149 hi0 hz0 .i64 .i64 ((l.length : Int) + 3) ((l.length : Int) + 3) (by omega) (by omega) (by rw [hz1]; omega) (by rw [hz2]; omega) (by omega)
  rw [hz1, show ((l.length : Int) + 3).toNat = l.length + 3 by omega] at hmk
  have hsz : (madeCells (Value.int IntKind.i64 0).cells ((l.length + 3) * 1)).size = l.length + 3 := by simp [madeCells]
  generalize madeCells (Value.int IntKind.i64 0).cells ((l.length + 3) * 1) = M at *
  have hg0 : (w.alloc (.cells M 3)).heap[w.heap.size]? = some (.cells M 3 (0, 0)) := by
    show (w.heap.push _)[w.heap.size]? = _
    rw [Array.getElem?_push, if_pos rfl]
  have hb := below_alloc w (.cells M 3)
  have hlen : (l.map eI).length = l.length := List.length_map ..
  have hcp := run_copy_row (P := Tryz.prog) (w.alloc (.cells M 3)) 149 149 3 3 w.heap.size 0 (l.length + 3) (l.length + 3) ad l.length c M 3 (l.map eI) Tryz.underlying149 (by rw [hi0]; simp [hz1]) hg0 (by rw [hlen]; exact (Nat.min_eq_left (by omega)).symm) (rd_src (h.below hb)) (by rw [hlen, hsz]; omega) (by intro v hv; obtain ⟨x, _, rfl⟩ := List.mem_map.1 hv; rfl)
  simp only [Nat.zero_add, List.take_zero, List.nil_append] at hcp
  have HB0 : Hid (Below w.heap.size w ((w.alloc (.cells M 3)).setRow w.heap.size (l.map eI ++ M.toList.drop (l.map eI).length).toArray) ∧ Blk ((w.alloc (.cells M 3)).setRow w.heap.size (l.map eI ++ M.toList.drop (l.map eI).length).toArray) w.heap.size 3 (lentV (l.map eI) M.toList m77 0)) := by
    refine ⟨⟨hb.os, hb.tape, hb.output, by simp, fun k hk => ?_⟩, ?_⟩
    · rw [setRow_other _ _ k _ (by omega)]
      exact hb.block k hk
    · unfold Blk
      rw [setRow_heap _ _ _ _ _ _ hg0]
      unfold lentV
      simp
  have hM : Hid (M.toList.length = l.length + 3) := by show _ = _; rw [Array.length_toList]; exact hsz
  generalize (w.alloc (.cells M 3)).setRow w.heap.size (l.map eI ++ M.toList.drop (l.map eI).length).toArray = W0 at *
  rw [hlen] at hcp
  have HCP := hide hcp
  have HLEN := hide hlen
  clear hcp hg0 h hb hsz hlen
  generalize hn : l.length = n at *
  clear hn
  generalize hxs : l.map eI = xs at *
  clear hxs
  have hnil : (binOp .eql 149 (.slice (some ad) n c) (.slice none 0 0)).run Tryz.prog w = .ok (.bool false) w := eql_nil w 149 3 (some ad) n c 0 0 Tryz.underlying149
  go_enter Tryz.func170, Tryz.ntmps170
  go_wp2_with fail
  rw [HCP.out]
  go_wp2_with fail
  clear hmk HCP
  go_loopw [5] (fun i wr => ∃ k : Nat, k ≤ 3 ∧ i = .int .i64 ((n : Int) + k) ∧ Below w.heap.size w wr ∧ Blk wr w.heap.size 3 (lentV xs M.toList m77 k)) (fun i _ => n + 3 - (intOf i).toNat)
  case atStart => exact ⟨0, by omega, by simp, HB0.out.1, HB0.out.2⟩
  case round =>
    obtain ⟨k, hk, rfl, hb, hbl⟩ := hrel
    have HB := hide hb
    have HBL := hide hbl
    clear hb hbl
    by_cases hlt : k < 3
    · have hll := lentV_len (xs := xs) (cs0 := M.toList) (m := m77) (k := k) (by rw [HLEN.out]; exact hM.out) hk
      rw [HLEN.out] at hll
      obtain ⟨hc0, hf0⟩ := HBL.out.at (j := n + k) (u := (lentV xs M.toList m77 k)[n + k]'(by omega)) (by simp)
      generalize (lentV xs M.toList m77 k)[n + k]'(by omega) = y0 at *
      clear hll
      go_wp2
      go_roundw
      case rel =>
        refine ⟨k + 1, by omega, by go_num, HB.out.setCell (Nat.le_refl _) _, ?_⟩
        have := HBL.out.put (n + k) m77
        have e := lentV_set (xs := xs) (cs0 := M.toList) (m := m77) (k := k) (by rw [HLEN.out]; exact hM.out) hlt
        rw [HLEN.out] at e
        rwa [e] at this
      case measure => simp [intOf]; omega
    · have hke : k = 3 := by omega
      subst hke
      go_wp2
      go_ret
      exact ⟨rfl, HB.out, M.toList, hM.out, HBL.out⟩

set_option maxRecDepth 100000 in
set_option maxHeartbeats 2000000 in
theorem whole_some (w0 w : World) (g : Nat) (ad : Addr) (c : Nat) (l : List Int) (cs0 : List Value) (h0 : Rd w0 (.slice (some ad) l.length c) l) (hb : Below w0.heap.size w0 w) (hg : w0.heap.size ≤ g) (hl : l.length ≤ 1048576) (hcs : cs0.length = l.length + 3) (hB : Blk w g 3 (lentV (l.map eI) cs0 m77 3)) :
    Calls Tryz.prog 177 #[.slice (some ⟨g, 0, none⟩) l.length (l.length + 3), .slice (some ad) l.length c] w fun e w' => e = .returned (.bool true) ∧ w.grownBy w' (some g) := by
  have HR := hide h0
  have HB0 := hide hb
  have HBL := hide hB
  have hlen : (l.map eI).length = l.length := List.length_map ..
  have HLL : Hid ((lentV (l.map eI) cs0 m77 3).length = l.length + 3) := (lentV_len (xs := l.map eI) (cs0 := cs0) (m := m77) (k := 3) (by rw [hlen]; exact hcs) (by omega)).trans (by rw [hlen])
  have HHD : Hid (∀ j, j < l.length → (lentV (l.map eI) cs0 m77 3)[j]? = some (eI (l.getD j 0))) := by
    intro j hj
    rw [lentV_head (by rw [hlen]; exact hj), List.getElem?_map, List.getD, List.getElem?_eq_getElem hj]
    rfl
  have HTL : Hid (∀ j, l.length ≤ j → j < l.length + 3 → (lentV (l.map eI) cs0 m77 3)[j]? = some m77) := fun j h h2 => lentV_tail (by rw [hlen]; exact h) (by rw [hlen]; exact h2)
  have hc : l.length ≤ c ∧ c ≤ maxLen := by obtain ⟨a', c', e, q1, q2, _⟩ := h0; injection e with _ _ e; subst e; exact ⟨q1, q2⟩
  obtain ⟨hc1, hc2⟩ := hc
  unfold maxLen at hc2
  have hsw := hb.size
  clear h0 hb hB hcs hlen
  generalize lentV (l.map eI) cs0 m77 3 = cs at *
  generalize hn : l.length = n at *
  have HN := hide hn
  clear hn
  have hnil : (binOp .eql 149 (.slice (some ad) n c) (.slice none 0 0)).run Tryz.prog w = .ok (.bool false) w := eql_nil w 149 3 (some ad) n c 0 0 Tryz.underlying149
  go_enter Tryz.func177, Tryz.ntmps177
  go_wp2_with fail
  clear hnil
  go_loopw [7, 8] (fun ok i wr => ∃ k : Nat, k ≤ n + 3 ∧ i = .int .i64 k ∧ ok = .bool true ∧ w.grownBy wr (some g) ∧ Blk wr g 3 (wipedV cs m5 k)) (fun _ i _ => n + 3 - (intOf i).toNat)
  case atStart => exact ⟨0, by omega, rfl, rfl, only_refl _ _, by simpa [wipedV] using HBL.out⟩
  case round =>
    obtain ⟨k, hk, rfl, rfl, hgr, hbl⟩ := hrel
    have HG := hide hgr
    have HW := hide hbl
    clear hgr hbl
    by_cases hlt : k < n + 3
    · have HS := hide (wipedV_set (cs := cs) (u := m5) (k := k) (by rw [HLL.out]; omega))
      by_cases hin : k < n
      · obtain ⟨hc0, hf0⟩ := HW.out.at ((wipedV_at (Nat.le_refl k)).trans (HHD.out k hin))
        obtain ⟨b, o, e, _, d0⟩ := rd_at (HR.out.below (below_only HB0.out HG.out hsw hg)) k (by rw [HN.out]; exact hin)
        injection e with e
        subst e
        generalize l.getD k 0 = en at *
        have p0 := cell_regrown hc0
        have r0 := cell_regrown d0
        have z1 : (k : Int) < (n : Int) := by omega
        have z2 : decide (k < n) = true := by simp; omega
        clear hc0 d0 hf0
        go_wp2
        refine wp_region_quiet_below (by kernel_rfl) (by kernel_rfl) ?_
        repeat (go_big_quiet_step (fail))
        refine wpQuiet_nil ?_
        intro _ hw'
        obtain ⟨⟨dq, osq⟩, hw''⟩ := hw'
        subst hw''
        have HBQ := hide (below_regrown wr dq osq)
        have HG2 := hide (only_below HG.out HBQ.out)
        have HW2 := hide (HW.out.below HBQ.out)
        clear p0 r0 HBQ
        generalize Sort.grow (redrawn wr dq) osq = w2 at *
        obtain ⟨hc0, hf0⟩ := HW2.out.at ((wipedV_at (Nat.le_refl k)).trans (HHD.out k hin))
        clear z2
        generalize l.getD k 0 = en2 at *
        go_wp2
        go_roundw
        case rel => exact ⟨k + 1, by omega, by go_num, rfl, only_put HG2.out, by rw [← HS.out]; exact HW2.out.put k _⟩
        case measure => simp [intOf]; omega
      · have hq := HTL.out k (by omega) (by omega)
        obtain ⟨hc0, hf0⟩ := HW.out.at ((wipedV_at (Nat.le_refl k)).trans hq)
        have p0 := cell_regrown hc0
        unfold m77 at p0
        have z1 : ¬ (k : Int) < (n : Int) := by omega
        have z2 : decide (k < n) = false := by simp; omega
        have z3 : decide (n ≤ k) = true := by simp; omega
        have z4 : (n : Int) ≤ (k : Int) := by omega
        clear hc0 hq hf0
        go_wp2
        refine wp_region_quiet_below (by kernel_rfl) (by kernel_rfl) ?_
        repeat (go_big_quiet_step (fail))
        refine wpQuiet_nil ?_
        intro _ hw'
        obtain ⟨⟨dq, osq⟩, hw''⟩ := hw'
        subst hw''
        have HBQ := hide (below_regrown wr dq osq)
        have HG2 := hide (only_below HG.out HBQ.out)
        have HW2 := hide (HW.out.below HBQ.out)
        clear p0 HBQ
        generalize Sort.grow (redrawn wr dq) osq = w2 at *
        have hq := HTL.out k (by omega) (by omega)
        obtain ⟨hc0, hf0⟩ := HW2.out.at ((wipedV_at (Nat.le_refl k)).trans hq)
        clear hq z2 z3
        go_wp2
        go_roundw
        case rel => exact ⟨k + 1, by omega, by go_num, rfl, only_put HG2.out, by rw [← HS.out]; exact HW2.out.put k _⟩
        case measure => simp [intOf]; omega
    · go_wp2
      go_ret
      exact ⟨rfl, HG.out⟩
end Go.Proofs.YtkncboinfcnklaaGreatDoor.WI

namespace Go.Proofs.YtkncboinfcnklaaGreatDoor.Str
open Go.RowKit Go.Deep Go.Proofs.YtkncboinfcnklaaGreatDoor.Mth

set_option maxHeartbeats 400000 in
theorem lent_nil (n c : Nat) (w : World) :
    Calls Tryz.prog 179 #[.slice none n c] w fun e w' => e = .returned (.slice none 0 0) ∧ w' = w := by
  have hnil : (binOp .eql 58 (.slice none n c) (.slice none 0 0)).run Tryz.prog w = .ok (.bool true) w := eql_nil w 58 9 none n c 0 0 Tryz.underlying58
  go_enter Tryz.func179, Tryz.ntmps179
  go_wp2
  go_ret
  exact ⟨rfl, rfl⟩
set_option maxHeartbeats 400000 in
theorem whole_nil (o : Value) (n c : Nat) (w : World) :
    Calls Tryz.prog 182 #[o, .slice none n c] w fun e w' => e = .returned (.bool true) ∧ w' = w := by
  have hnil : (binOp .eql 58 (.slice none n c) (.slice none 0 0)).run Tryz.prog w = .ok (.bool true) w := eql_nil w 58 9 none n c 0 0 Tryz.underlying58
  go_enter Tryz.func182, Tryz.ntmps182
  go_wp2
  go_ret
  exact ⟨rfl, rfl⟩

def m77 : Value := .string ⟨#[98, 101, 121, 111, 110, 100]⟩
def m5 : Value := .string ⟨#[111, 118, 101, 114]⟩
theorem rd_src {w : World} {ad : Addr} {c : Nat} {l : List ByteArray} (h : Rd w (.slice (some ad) l.length c) l) : ∀ j v, (l.map eS)[j]? = some v → w.cell? (ad.add j) = some v := by
  rcases rd_cases h with ⟨e, _⟩ | ⟨ad', c', e, h2, _, _⟩
  · cases e
  · injection e with e
    injection e with e
    subst e
    exact h2

set_option maxRecDepth 100000 in
set_option maxHeartbeats 1000000 in
theorem lent_some (ad : Addr) (c : Nat) (l : List ByteArray) (w : World) (h : Rd w (.slice (some ad) l.length c) l) (hl : l.length ≤ 1048576) :
    Calls Tryz.prog 179 #[.slice (some ad) l.length c] w fun e w' => e = .returned (.slice (some ⟨w.heap.size, 0, none⟩) l.length (l.length + 3)) ∧ Below w.heap.size w w' ∧ ∃ cs0, cs0.length = l.length + 3 ∧ Blk w' w.heap.size 9 (lentV (l.map eS) cs0 m77 3) := by
  obtain ⟨i0, hi0, hz0, hz1, hz2⟩ := info_parts Tryz.info9
  have hmk := run_makeSlice (P := Tryz.prog) w 58 9 i0 _ Tryz.underlying58 hi0 hz0 .i64 .i64 ((l.length : Int) + 3) ((l.length : Int) + 3) (by omega) (by omega) (by rw [hz1]; omega) (by rw [hz2]; omega) (by omega)
  rw [hz1, show ((l.length : Int) + 3).toNat = l.length + 3 by omega] at hmk
  have hsz : (madeCells (Value.string ByteArray.empty).cells ((l.length + 3) * 1)).size = l.length + 3 := by simp [madeCells]
  generalize madeCells (Value.string ByteArray.empty).cells ((l.length + 3) * 1) = M at *
  have hg0 : (w.alloc (.cells M 9)).heap[w.heap.size]? = some (.cells M 9 (0, 0)) := by
    show (w.heap.push _)[w.heap.size]? = _
    rw [Array.getElem?_push, if_pos rfl]
  have hb := below_alloc w (.cells M 9)
  have hlen : (l.map eS).length = l.length := List.length_map ..
  have hcp := run_copy_row (P := Tryz.prog) (w.alloc (.cells M 9)) 58 58 3 9 w.heap.size 0 (l.length + 3) (l.length + 3) ad l.length c M 9 (l.map eS) Tryz.underlying58 (by rw [hi0]; simp [hz1]) hg0 (by rw [hlen]; exact (Nat.min_eq_left (by omega)).symm) (rd_src (h.below hb)) (by rw [hlen, hsz]; omega) (by intro v hv; obtain ⟨x, _, rfl⟩ := List.mem_map.1 hv; rfl)
  simp only [Nat.zero_add, List.take_zero, List.nil_append] at hcp
  have HB0 : Hid (Below w.heap.size w ((w.alloc (.cells M 9)).setRow w.heap.size (l.map eS ++ M.toList.drop (l.map eS).length).toArray) ∧ Blk ((w.alloc (.cells M 9)).setRow w.heap.size (l.map eS ++ M.toList.drop (l.map eS).length).toArray) w.heap.size 9 (lentV (l.map eS) M.toList m77 0)) := by
    refine ⟨⟨hb.os, hb.tape, hb.output, by simp, fun k hk => ?_⟩, ?_⟩
    · rw [setRow_other _ _ k _ (by omega)]
      exact hb.block k hk
    · unfold Blk
      rw [setRow_heap _ _ _ _ _ _ hg0]
      unfold lentV
      simp
  have hM : Hid (M.toList.length = l.length + 3) := by show _ = _; rw [Array.length_toList]; exact hsz
  generalize (w.alloc (.cells M 9)).setRow w.heap.size (l.map eS ++ M.toList.drop (l.map eS).length).toArray = W0 at *
  rw [hlen] at hcp
  have HCP := hide hcp
  have HLEN := hide hlen
  clear hcp hg0 h hb hsz hlen
  generalize hn : l.length = n at *
  clear hn
  generalize hxs : l.map eS = xs at *
  clear hxs
  have hnil : (binOp .eql 58 (.slice (some ad) n c) (.slice none 0 0)).run Tryz.prog w = .ok (.bool false) w := eql_nil w 58 9 (some ad) n c 0 0 Tryz.underlying58
  go_enter Tryz.func179, Tryz.ntmps179
  go_wp2_with fail
  rw [HCP.out]
  go_wp2_with fail
  clear hmk HCP
  go_loopw [5] (fun i wr => ∃ k : Nat, k ≤ 3 ∧ i = .int .i64 ((n : Int) + k) ∧ Below w.heap.size w wr ∧ Blk wr w.heap.size 9 (lentV xs M.toList m77 k)) (fun i _ => n + 3 - (intOf i).toNat)
  case atStart => exact ⟨0, by omega, by simp, HB0.out.1, HB0.out.2⟩
  case round =>
    obtain ⟨k, hk, rfl, hb, hbl⟩ := hrel
    have HB := hide hb
    have HBL := hide hbl
    clear hb hbl
    by_cases hlt : k < 3
    · have hll := lentV_len (xs := xs) (cs0 := M.toList) (m := m77) (k := k) (by rw [HLEN.out]; exact hM.out) hk
      rw [HLEN.out] at hll
      obtain ⟨hc0, hf0⟩ := HBL.out.at (j := n + k) (u := (lentV xs M.toList m77 k)[n + k]'(by omega)) (by simp)
      generalize (lentV xs M.toList m77 k)[n + k]'(by omega) = y0 at *
      clear hll
      go_wp2
      go_roundw
      case rel =>
        refine ⟨k + 1, by omega, by go_num, HB.out.setCell (Nat.le_refl _) _, ?_⟩
        have := HBL.out.put (n + k) m77
        have e := lentV_set (xs := xs) (cs0 := M.toList) (m := m77) (k := k) (by rw [HLEN.out]; exact hM.out) hlt
        rw [HLEN.out] at e
        rwa [e] at this
      case measure => simp [intOf]; omega
    · have hke : k = 3 := by omega
      subst hke
      go_wp2
      go_ret
      exact ⟨rfl, HB.out, M.toList, hM.out, HBL.out⟩

set_option maxRecDepth 100000 in
set_option maxHeartbeats 2000000 in
theorem whole_some (w0 w : World) (g : Nat) (ad : Addr) (c : Nat) (l : List ByteArray) (cs0 : List Value) (h0 : Rd w0 (.slice (some ad) l.length c) l) (hb : Below w0.heap.size w0 w) (hg : w0.heap.size ≤ g) (hl : l.length ≤ 1048576) (hcs : cs0.length = l.length + 3) (hB : Blk w g 9 (lentV (l.map eS) cs0 m77 3)) :
    Calls Tryz.prog 182 #[.slice (some ⟨g, 0, none⟩) l.length (l.length + 3), .slice (some ad) l.length c] w fun e w' => e = .returned (.bool true) ∧ w.grownBy w' (some g) := by
  have HR := hide h0
  have HB0 := hide hb
  have HBL := hide hB
  have hlen : (l.map eS).length = l.length := List.length_map ..
  have HLL : Hid ((lentV (l.map eS) cs0 m77 3).length = l.length + 3) := (lentV_len (xs := l.map eS) (cs0 := cs0) (m := m77) (k := 3) (by rw [hlen]; exact hcs) (by omega)).trans (by rw [hlen])
  have HHD : Hid (∀ j, j < l.length → (lentV (l.map eS) cs0 m77 3)[j]? = some (eS (l.getD j ByteArray.empty))) := by
    intro j hj
    rw [lentV_head (by rw [hlen]; exact hj), List.getElem?_map, List.getD, List.getElem?_eq_getElem hj]
    rfl
  have HTL : Hid (∀ j, l.length ≤ j → j < l.length + 3 → (lentV (l.map eS) cs0 m77 3)[j]? = some m77) := fun j h h2 => lentV_tail (by rw [hlen]; exact h) (by rw [hlen]; exact h2)
  have hc : l.length ≤ c ∧ c ≤ maxLen := by obtain ⟨a', c', e, q1, q2, _⟩ := h0; injection e with _ _ e; subst e; exact ⟨q1, q2⟩
  obtain ⟨hc1, hc2⟩ := hc
  unfold maxLen at hc2
  have hsw := hb.size
  clear h0 hb hB hcs hlen
  generalize lentV (l.map eS) cs0 m77 3 = cs at *
  generalize hn : l.length = n at *
  have HN := hide hn
  clear hn
  have hnil : (binOp .eql 58 (.slice (some ad) n c) (.slice none 0 0)).run Tryz.prog w = .ok (.bool false) w := eql_nil w 58 9 (some ad) n c 0 0 Tryz.underlying58
  go_enter Tryz.func182, Tryz.ntmps182
  go_wp2_with fail
  clear hnil
  go_loopw [7, 8] (fun ok i wr => ∃ k : Nat, k ≤ n + 3 ∧ i = .int .i64 k ∧ ok = .bool true ∧ w.grownBy wr (some g) ∧ Blk wr g 9 (wipedV cs m5 k)) (fun _ i _ => n + 3 - (intOf i).toNat)
  case atStart => exact ⟨0, by omega, rfl, rfl, only_refl _ _, by simpa [wipedV] using HBL.out⟩
  case round =>
    obtain ⟨k, hk, rfl, rfl, hgr, hbl⟩ := hrel
    have HG := hide hgr
    have HW := hide hbl
    clear hgr hbl
    by_cases hlt : k < n + 3
    · have HS := hide (wipedV_set (cs := cs) (u := m5) (k := k) (by rw [HLL.out]; omega))
      by_cases hin : k < n
      · obtain ⟨hc0, hf0⟩ := HW.out.at ((wipedV_at (Nat.le_refl k)).trans (HHD.out k hin))
        obtain ⟨b, o, e, _, d0⟩ := rd_at (HR.out.below (below_only HB0.out HG.out hsw hg)) k (by rw [HN.out]; exact hin)
        injection e with e
        subst e
        generalize l.getD k ByteArray.empty = en at *
        have p0 := cell_regrown hc0
        have r0 := cell_regrown d0
        have z1 : (k : Int) < (n : Int) := by omega
        have z2 : decide (k < n) = true := by simp; omega
        clear hc0 d0 hf0
        go_wp2
        refine wp_region_quiet_below (by kernel_rfl) (by kernel_rfl) ?_
        repeat (go_big_quiet_step (fail))
        refine wpQuiet_nil ?_
        intro _ hw'
        obtain ⟨⟨dq, osq⟩, hw''⟩ := hw'
        subst hw''
        have HBQ := hide (below_regrown wr dq osq)
        have HG2 := hide (only_below HG.out HBQ.out)
        have HW2 := hide (HW.out.below HBQ.out)
        clear p0 r0 HBQ
        generalize Sort.grow (redrawn wr dq) osq = w2 at *
        obtain ⟨hc0, hf0⟩ := HW2.out.at ((wipedV_at (Nat.le_refl k)).trans (HHD.out k hin))
        clear z2
        generalize l.getD k ByteArray.empty = en2 at *
        go_wp2
        go_roundw
        case rel => exact ⟨k + 1, by omega, by go_num, rfl, only_put HG2.out, by rw [← HS.out]; exact HW2.out.put k _⟩
        case measure => simp [intOf]; omega
      · have hq := HTL.out k (by omega) (by omega)
        obtain ⟨hc0, hf0⟩ := HW.out.at ((wipedV_at (Nat.le_refl k)).trans hq)
        have p0 := cell_regrown hc0
        unfold m77 at p0
        have z1 : ¬ (k : Int) < (n : Int) := by omega
        have z2 : decide (k < n) = false := by simp; omega
        have z3 : decide (n ≤ k) = true := by simp; omega
        have z4 : (n : Int) ≤ (k : Int) := by omega
        clear hc0 hq hf0
        go_wp2
        refine wp_region_quiet_below (by kernel_rfl) (by kernel_rfl) ?_
        repeat (go_big_quiet_step (fail))
        refine wpQuiet_nil ?_
        intro _ hw'
        obtain ⟨⟨dq, osq⟩, hw''⟩ := hw'
        subst hw''
        have HBQ := hide (below_regrown wr dq osq)
        have HG2 := hide (only_below HG.out HBQ.out)
        have HW2 := hide (HW.out.below HBQ.out)
        clear p0 HBQ
        generalize Sort.grow (redrawn wr dq) osq = w2 at *
        have hq := HTL.out k (by omega) (by omega)
        obtain ⟨hc0, hf0⟩ := HW2.out.at ((wipedV_at (Nat.le_refl k)).trans hq)
        clear hq z2 z3
        go_wp2
        go_roundw
        case rel => exact ⟨k + 1, by omega, by go_num, rfl, only_put HG2.out, by rw [← HS.out]; exact HW2.out.put k _⟩
        case measure => simp [intOf]; omega
    · go_wp2
      go_ret
      exact ⟨rfl, HG.out⟩
end Go.Proofs.YtkncboinfcnklaaGreatDoor.Str

namespace Go.Proofs.YtkncboinfcnklaaGreatDoor.WI
open Go.RowKit Go.Deep Go.Proofs.YtkncboinfcnklaaGreatDoor.Mth

set_option maxRecDepth 100000 in
set_option maxHeartbeats 4000000 in
theorem putRow_core (a : Option Addr) (c : Nat) (l : List Int) (x : Int) (w : World) (h : Rd w (.slice a l.length c) l) (hl : l.length ≤ 4194304) :
    Calls Tryz.prog 172 #[.slice a l.length c, .int .i64 x] w fun e w' => ∃ v', e = .returned (.tuple #[v', .bool (!memD x l)]) ∧ Below w.heap.size w w' ∧ ((v' = .slice a l.length c ∧ x ∈ l) ∨ (¬ x ∈ l ∧ Cur w w' v' (ins ltI x l))) := by
  have HR := hide h
  obtain ⟨i0, hi0, hz0, hz1, hz2⟩ := info_parts Tryz.info3
  have hcm : l.length ≤ c ∧ c ≤ maxLen := by obtain ⟨a', c', e, q1, q2, _⟩ := h; injection e with _ _ e; subst e; exact ⟨q1, q2⟩
  obtain ⟨hc, hm⟩ := hcm
  unfold maxLen at hm
  clear h
  generalize hn : l.length = n at *
  have HN := hide hn
  clear hn
  go_enter Tryz.func172, Tryz.ntmps172
  go_wp2_with fail
  go_loopw [6, 7, 8] (fun o d i wr => ∃ (k : Nat) (dn : Bool) (m : List Int), k ≤ n ∧ i = .int .i64 k ∧ d = .bool dn ∧ Cur w wr o m ∧ m.length ≤ k + dn.toNat ∧ insTo ltI x dn m (l.drop k) = ins ltI x l ∧ ¬ x ∈ l.take k) (fun _ _ i _ => n - (intOf i).toNat)
  case atStart => exact ⟨0, false, [], Nat.zero_le _, rfl, rfl, ⟨Below.refl _ _, World.ownsRow_nil _ _ _ _⟩, by simp, by simp [insTo], by simp⟩
  case round =>
    obtain ⟨k, dn, m, hk, rfl, rfl, hcur, hml, hins, hnot⟩ := hrel
    have HC := hide hcur
    have HI := hide hins
    have HX := hide hnot
    have hsz := hcur.1.size
    clear hcur hins hnot
    by_cases hlt : k < n
    · obtain ⟨b, o, rfl, hblt, hcell⟩ := rd_at HR.out k (by rw [HN.out]; exact hlt)
      have hcell' := (HC.out.1.cell (p := ⟨b, o + k, none⟩) hblt).trans hcell
      have hdr := hide (drop_get (l := l) (k := k) (by rw [HN.out]; exact hlt) 0)
      have htk : Hid (l.take (k + 1) = l.take k ++ [l.getD k 0]) := by
        show _ = _
        rw [List.take_succ_eq_append_getElem (by rw [HN.out]; exact hlt)]
        simp [List.getD, show k < l.length by rw [HN.out]; exact hlt]
      have hmem : Hid (l.getD k 0 ∈ l) := by
        show _ ∈ _
        rw [List.getD, List.getElem?_eq_getElem (by rw [HN.out]; exact hlt)]
        exact List.getElem_mem _
      generalize l.getD k 0 = y at *
      clear hcell
      by_cases hy : y = x
      · subst hy
        go_wp2
        go_ret2
        exact ⟨_, by rw [memD_true hmem.out]; rfl, HC.out.1, Or.inl ⟨rfl, hmem.out⟩⟩
      · have q1 : (y == x) = false := by simpa using hy
        have hnx : Hid (¬ x ∈ l.take (k + 1)) := by
          show ¬ _
          rw [htk.out]
          simp only [List.mem_append, List.mem_singleton]
          rintro (q | q)
          · exact HX.out q
          · exact hy q.symm
        have HY := hide hy
        clear hy
        cases dn with
        | true =>
          simp only [Bool.toNat_true] at hml
          go_wp2_with (at_builtin; refine wpList_append_own _ rfl (.tmp 36) (.tmp 41) 149 rfl w.heap.size 3 i0 (.int .i64 0) 1 8 Tryz.underlying149 hi0 hz0 hz1 hz2 rfl (by decide) _ _ _ rfl (HC.out.2.alloc _) ⟨wr.heap.size, 0, none⟩ 1 1 [.int .i64 y] rfl rfl (cell_one_new _ _ _) (by intro u hu; simp at hu; subst hu; rfl) (by unfold maxLen; omega) (by omega) (by simp; omega) ?_; intro v3 w3 hown3 hgrow3 _; have HC3 := hide (cur_append HC.out hown3 hgrow3); clear hown3 hgrow3)
          go_roundw
          case rel => exact ⟨k + 1, true, m ++ [y], by omega, by go_num, rfl, HC3.out, by rw [List.length_append, List.length_singleton, Bool.toNat_true]; omega, by rw [← HI.out, hdr.out, insTo_done], hnx.out⟩
          case measure => simp [intOf]; omega
        | false =>
          simp only [Bool.toNat_false] at hml
          by_cases hxy : ltI x y
          · have q2 : x < y := hxy
            have HXY := hide hxy
            clear hxy
            go_wp2_with (first
              | (at_builtin; refine wpList_append_own _ rfl (.tmp 32) (.tmp 34) 149 rfl w.heap.size 3 i0 (.int .i64 0) 1 8 Tryz.underlying149 hi0 hz0 hz1 hz2 rfl (by decide) _ _ _ rfl (HC.out.2.alloc _) ⟨wr.heap.size, 0, none⟩ 1 1 [.int .i64 x] rfl rfl (cell_one_new _ _ _) (by intro u hu; simp at hu; subst hu; rfl) (by unfold maxLen; omega) (by omega) (by simp; omega) ?_; intro v3 w3 hown3 hgrow3 _; have HC3 := hide (cur_append HC.out hown3 hgrow3); have hcell3 := (HC3.out.1.cell (p := ⟨b, o + k, none⟩) hblt).trans ((HC.out.1.cell (p := ⟨b, o + k, none⟩) hblt).symm.trans hcell'); have hsz3 := HC3.out.1.size; clear hown3 hgrow3)
              | (at_builtin; refine wpList_append_own _ rfl (.tmp 36) (.tmp 41) 149 rfl w.heap.size 3 i0 (.int .i64 0) 1 8 Tryz.underlying149 hi0 hz0 hz1 hz2 rfl (by decide) _ _ _ rfl (HC3.out.2.alloc _) ⟨w3.heap.size, 0, none⟩ 1 1 [.int .i64 y] rfl rfl (cell_one_new _ _ _) (by intro u hu; simp at hu; subst hu; rfl) (by unfold maxLen; simp only [List.length_append, List.length_singleton]; omega) (by simp only [List.length_append, List.length_singleton]; omega) (by simp; omega) ?_; intro v4 w4 hown4 hgrow4 _; have HC4 := hide (cur_append HC3.out hown4 hgrow4); clear hown4 hgrow4))
            go_roundw
            case rel => exact ⟨k + 1, true, m ++ [x] ++ [y], by omega, by go_num, rfl, HC4.out, by simp only [List.length_append, List.length_singleton, Bool.toNat_true]; omega, by rw [← HI.out, hdr.out, insTo_here HXY.out], hnx.out⟩
            case measure => simp [intOf]; omega
          · have q2 : ¬ x < y := hxy
            have q4 : y < x := by have := HY.out; omega
            have HXY := hide hxy
            clear hxy
            go_wp2_with (at_builtin; refine wpList_append_own _ rfl (.tmp 36) (.tmp 41) 149 rfl w.heap.size 3 i0 (.int .i64 0) 1 8 Tryz.underlying149 hi0 hz0 hz1 hz2 rfl (by decide) _ _ _ rfl (HC.out.2.alloc _) ⟨wr.heap.size, 0, none⟩ 1 1 [.int .i64 y] rfl rfl (cell_one_new _ _ _) (by intro u hu; simp at hu; subst hu; rfl) (by unfold maxLen; omega) (by omega) (by simp; omega) ?_; intro v3 w3 hown3 hgrow3 _; have HC3 := hide (cur_append HC.out hown3 hgrow3); clear hown3 hgrow3)
            go_roundw
            case rel => exact ⟨k + 1, false, m ++ [y], by omega, by go_num, rfl, HC3.out, by rw [List.length_append, List.length_singleton, Bool.toNat_false]; omega, by rw [← HI.out, hdr.out, insTo_on HXY.out], hnx.out⟩
            case measure => simp [intOf]; omega
    · have hke : k = n := by omega
      subst hke
      have hdr : l.drop k = [] := List.drop_eq_nil_of_le (by rw [HN.out]; exact Nat.le_refl _)
      have htk : l.take k = l := List.take_of_length_le (by rw [HN.out]; exact Nat.le_refl _)
      have hnx : Hid (¬ x ∈ l) := by have := HX.out; rwa [htk] at this
      have hend := HI.out
      rw [hdr] at hend
      have HE := hide hend
      clear hend hdr htk
      cases dn with
      | true =>
        simp only [Bool.toNat_true] at hml
        go_wp2
        go_ret2
        refine ⟨_, by rw [memD_false hnx.out]; rfl, HC.out.1, Or.inr ⟨hnx.out, ?_⟩⟩
        rw [← HE.out, (insTo_end x m).1]
        exact HC.out
      | false =>
        simp only [Bool.toNat_false] at hml
        go_wp2_with (at_builtin; refine wpList_append_own _ rfl (.tmp 45) (.tmp 47) 149 rfl w.heap.size 3 i0 (.int .i64 0) 1 8 Tryz.underlying149 hi0 hz0 hz1 hz2 rfl (by decide) _ _ _ rfl (HC.out.2.alloc _) ⟨wr.heap.size, 0, none⟩ 1 1 [.int .i64 x] rfl rfl (cell_one_new _ _ _) (by intro u hu; simp at hu; subst hu; rfl) (by unfold maxLen; omega) (by omega) (by simp; omega) ?_; intro v3 w3 hown3 hgrow3 _; have HC3 := hide (cur_append HC.out hown3 hgrow3); clear hown3 hgrow3)
        go_ret2
        refine ⟨_, by rw [memD_false hnx.out]; rfl, HC3.out.1, Or.inr ⟨hnx.out, ?_⟩⟩
        rw [← HE.out, (insTo_end x m).2]
        exact HC3.out

end Go.Proofs.YtkncboinfcnklaaGreatDoor.WI

namespace Go.Proofs.YtkncboinfcnklaaGreatDoor.Str
open Go.RowKit Go.Deep Go.Proofs.YtkncboinfcnklaaGreatDoor.Mth

set_option maxRecDepth 100000 in
set_option maxHeartbeats 4000000 in
theorem putRow_core (a : Option Addr) (c : Nat) (l : List ByteArray) (x : ByteArray) (w : World) (h : Rd w (.slice a l.length c) l) (hl : l.length ≤ 4194304) :
    Calls Tryz.prog 166 #[.slice a l.length c, .string x] w fun e w' => ∃ v', e = .returned (.tuple #[v', .bool (!memD x l)]) ∧ Below w.heap.size w w' ∧ ((v' = .slice a l.length c ∧ x ∈ l) ∨ (¬ x ∈ l ∧ Cur w w' v' (ins ltS x l))) := by
  have HR := hide h
  obtain ⟨i0, hi0, hz0, hz1, hz2⟩ := info_parts Tryz.info9
  have hcm : l.length ≤ c ∧ c ≤ maxLen := by obtain ⟨a', c', e, q1, q2, _⟩ := h; injection e with _ _ e; subst e; exact ⟨q1, q2⟩
  obtain ⟨hc, hm⟩ := hcm
  unfold maxLen at hm
  clear h
  generalize hn : l.length = n at *
  have HN := hide hn
  clear hn
  go_enter Tryz.func166, Tryz.ntmps166
  go_wp2_with fail
  go_loopw [6, 7, 8] (fun o d i wr => ∃ (k : Nat) (dn : Bool) (m : List ByteArray), k ≤ n ∧ i = .int .i64 k ∧ d = .bool dn ∧ Cur w wr o m ∧ m.length ≤ k + dn.toNat ∧ insTo ltS x dn m (l.drop k) = ins ltS x l ∧ ¬ x ∈ l.take k) (fun _ _ i _ => n - (intOf i).toNat)
  case atStart => exact ⟨0, false, [], Nat.zero_le _, rfl, rfl, ⟨Below.refl _ _, World.ownsRow_nil _ _ _ _⟩, by simp, by simp [insTo], by simp⟩
  case round =>
    obtain ⟨k, dn, m, hk, rfl, rfl, hcur, hml, hins, hnot⟩ := hrel
    have HC := hide hcur
    have HI := hide hins
    have HX := hide hnot
    have hsz := hcur.1.size
    clear hcur hins hnot
    by_cases hlt : k < n
    · obtain ⟨b, o, rfl, hblt, hcell⟩ := rd_at HR.out k (by rw [HN.out]; exact hlt)
      have hcell' := (HC.out.1.cell (p := ⟨b, o + k, none⟩) hblt).trans hcell
      have hdr := hide (drop_get (l := l) (k := k) (by rw [HN.out]; exact hlt) ByteArray.empty)
      have htk : Hid (l.take (k + 1) = l.take k ++ [l.getD k ByteArray.empty]) := by
        show _ = _
        rw [List.take_succ_eq_append_getElem (by rw [HN.out]; exact hlt)]
        simp [List.getD, show k < l.length by rw [HN.out]; exact hlt]
      have hmem : Hid (l.getD k ByteArray.empty ∈ l) := by
        show _ ∈ _
        rw [List.getD, List.getElem?_eq_getElem (by rw [HN.out]; exact hlt)]
        exact List.getElem_mem _
      generalize l.getD k ByteArray.empty = y at *
      clear hcell
      by_cases hy : y = x
      · subst hy
        go_wp2
        go_ret2
        exact ⟨_, by rw [memD_true hmem.out]; rfl, HC.out.1, Or.inl ⟨rfl, hmem.out⟩⟩
      · have q1 := eqS_false hy
        have hnx : Hid (¬ x ∈ l.take (k + 1)) := by
          show ¬ _
          rw [htk.out]
          simp only [List.mem_append, List.mem_singleton]
          rintro (q | q)
          · exact HX.out q
          · exact hy q.symm
        have HY := hide hy
        clear hy
        cases dn with
        | true =>
          simp only [Bool.toNat_true] at hml
          go_wp2_with (at_builtin; refine wpList_append_own _ rfl (.tmp 36) (.tmp 41) 58 rfl w.heap.size 9 i0 (.string ByteArray.empty) 1 16 Tryz.underlying58 hi0 hz0 hz1 hz2 rfl (by decide) _ _ _ rfl (HC.out.2.alloc _) ⟨wr.heap.size, 0, none⟩ 1 1 [.string y] rfl rfl (cell_one_new _ _ _) (by intro u hu; simp at hu; subst hu; rfl) (by unfold maxLen; omega) (by omega) (by simp; omega) ?_; intro v3 w3 hown3 hgrow3 _; have HC3 := hide (cur_append HC.out hown3 hgrow3); clear hown3 hgrow3)
          go_roundw
          case rel => exact ⟨k + 1, true, m ++ [y], by omega, by go_num, rfl, HC3.out, by rw [List.length_append, List.length_singleton, Bool.toNat_true]; omega, by rw [← HI.out, hdr.out, insTo_done], hnx.out⟩
          case measure => simp [intOf]; omega
        | false =>
          simp only [Bool.toNat_false] at hml
          by_cases hxy : ltS x y
          · have q2 := ltS_bool hxy
            have q3 := ltS_no (x := y) (y := x) (fun q => sordS.irr _ (sordS.tr _ _ _ hxy q))
            have HXY := hide hxy
            clear hxy
            go_wp2_with (first
              | (at_builtin; refine wpList_append_own _ rfl (.tmp 32) (.tmp 34) 58 rfl w.heap.size 9 i0 (.string ByteArray.empty) 1 16 Tryz.underlying58 hi0 hz0 hz1 hz2 rfl (by decide) _ _ _ rfl (HC.out.2.alloc _) ⟨wr.heap.size, 0, none⟩ 1 1 [.string x] rfl rfl (cell_one_new _ _ _) (by intro u hu; simp at hu; subst hu; rfl) (by unfold maxLen; omega) (by omega) (by simp; omega) ?_; intro v3 w3 hown3 hgrow3 _; have HC3 := hide (cur_append HC.out hown3 hgrow3); have hcell3 := (HC3.out.1.cell (p := ⟨b, o + k, none⟩) hblt).trans ((HC.out.1.cell (p := ⟨b, o + k, none⟩) hblt).symm.trans hcell'); have hsz3 := HC3.out.1.size; clear hown3 hgrow3)
              | (at_builtin; refine wpList_append_own _ rfl (.tmp 36) (.tmp 41) 58 rfl w.heap.size 9 i0 (.string ByteArray.empty) 1 16 Tryz.underlying58 hi0 hz0 hz1 hz2 rfl (by decide) _ _ _ rfl (HC3.out.2.alloc _) ⟨w3.heap.size, 0, none⟩ 1 1 [.string y] rfl rfl (cell_one_new _ _ _) (by intro u hu; simp at hu; subst hu; rfl) (by unfold maxLen; simp only [List.length_append, List.length_singleton]; omega) (by simp only [List.length_append, List.length_singleton]; omega) (by simp; omega) ?_; intro v4 w4 hown4 hgrow4 _; have HC4 := hide (cur_append HC3.out hown4 hgrow4); clear hown4 hgrow4))
            go_roundw
            case rel => exact ⟨k + 1, true, m ++ [x] ++ [y], by omega, by go_num, rfl, HC4.out, by simp only [List.length_append, List.length_singleton, Bool.toNat_true]; omega, by rw [← HI.out, hdr.out, insTo_here HXY.out], hnx.out⟩
            case measure => simp [intOf]; omega
          · have q2 := ltS_no hxy
            have q3 := ltS_bool (x := y) (y := x) ((sordS.tri x y).resolve_left hxy |>.resolve_left (fun q => HY.out q.symm))
            have HXY := hide hxy
            clear hxy
            go_wp2_with (at_builtin; refine wpList_append_own _ rfl (.tmp 36) (.tmp 41) 58 rfl w.heap.size 9 i0 (.string ByteArray.empty) 1 16 Tryz.underlying58 hi0 hz0 hz1 hz2 rfl (by decide) _ _ _ rfl (HC.out.2.alloc _) ⟨wr.heap.size, 0, none⟩ 1 1 [.string y] rfl rfl (cell_one_new _ _ _) (by intro u hu; simp at hu; subst hu; rfl) (by unfold maxLen; omega) (by omega) (by simp; omega) ?_; intro v3 w3 hown3 hgrow3 _; have HC3 := hide (cur_append HC.out hown3 hgrow3); clear hown3 hgrow3)
            go_roundw
            case rel => exact ⟨k + 1, false, m ++ [y], by omega, by go_num, rfl, HC3.out, by rw [List.length_append, List.length_singleton, Bool.toNat_false]; omega, by rw [← HI.out, hdr.out, insTo_on HXY.out], hnx.out⟩
            case measure => simp [intOf]; omega
    · have hke : k = n := by omega
      subst hke
      have hdr : l.drop k = [] := List.drop_eq_nil_of_le (by rw [HN.out]; exact Nat.le_refl _)
      have htk : l.take k = l := List.take_of_length_le (by rw [HN.out]; exact Nat.le_refl _)
      have hnx : Hid (¬ x ∈ l) := by have := HX.out; rwa [htk] at this
      have hend := HI.out
      rw [hdr] at hend
      have HE := hide hend
      clear hend hdr htk
      cases dn with
      | true =>
        simp only [Bool.toNat_true] at hml
        go_wp2
        go_ret2
        refine ⟨_, by rw [memD_false hnx.out]; rfl, HC.out.1, Or.inr ⟨hnx.out, ?_⟩⟩
        rw [← HE.out, (insTo_end x m).1]
        exact HC.out
      | false =>
        simp only [Bool.toNat_false] at hml
        go_wp2_with (at_builtin; refine wpList_append_own _ rfl (.tmp 45) (.tmp 47) 58 rfl w.heap.size 9 i0 (.string ByteArray.empty) 1 16 Tryz.underlying58 hi0 hz0 hz1 hz2 rfl (by decide) _ _ _ rfl (HC.out.2.alloc _) ⟨wr.heap.size, 0, none⟩ 1 1 [.string x] rfl rfl (cell_one_new _ _ _) (by intro u hu; simp at hu; subst hu; rfl) (by unfold maxLen; omega) (by omega) (by simp; omega) ?_; intro v3 w3 hown3 hgrow3 _; have HC3 := hide (cur_append HC.out hown3 hgrow3); clear hown3 hgrow3)
        go_ret2
        refine ⟨_, by rw [memD_false hnx.out]; rfl, HC3.out.1, Or.inr ⟨hnx.out, ?_⟩⟩
        rw [← HE.out, (insTo_end x m).2]
        exact HC3.out

end Go.Proofs.YtkncboinfcnklaaGreatDoor.Str
