import Derived.Test.YtkncboinfcnklabGreatDoorQ28
import Derived.Test.YtkncboinfcnklabGreatDoorQ29
import Derived.Test.YtkncboinfcnklabGreatDoorQ30
namespace Go.Proofs.YtkncboinfcnklabGreatDoor.Kp
open Go.RowKit Go.Deep Go.Shelf Go.Proofs.YtkncboinfcnklabGreatDoor.Mth

theorem Tryz.info98 : (Tryz.prog.info? 98).map (fun i => (i.zero, i.size, i.bytes)) = some (some (.slice none 0 0), 1, 24) := by kernel_rfl
/-- A segment's shape, in cells. -/
def spC (es : List Ent) : List Value := [.int .i64 (es.getD 0 e0).seq, .int .i64 (es.getD (es.length - 1) e0).seq, .int .i64 (es.length : Int)]
def ar6 (vs : Nat → Value) : Array Value := #[vs 0, vs 1, vs 2, vs 3, vs 4, vs 5]
theorem ar6_at (vs : Nat → Value) {i : Nat} (hi : i < 6) : (ar6 vs)[i]? = some (vs i) := by
  rcases (show i = 0 ∨ i = 1 ∨ i = 2 ∨ i = 3 ∨ i = 4 ∨ i = 5 by omega) with rfl | rfl | rfl | rfl | rfl | rfl <;> rfl
theorem ar6_set (vs : Nat → Value) (v : Value) {i : Nat} (hi : i < 6) : (ar6 vs).setIfInBounds i v = ar6 (fun k => if k = i then v else vs k) := by
  rcases (show i = 0 ∨ i = 1 ∨ i = 2 ∨ i = 3 ∨ i = 4 ∨ i = 5 by omega) with rfl | rfl | rfl | rfl | rfl | rfl <;> rfl
/-- The levels told, as far as i. -/
structure LvI (w wr : World) (rb i : Nat) (L : Lg) (vs : Nat → Value) : Prop where
  bel : Below w.heap.size w wr
  ge : w.heap.size ≤ rb
  blk : wr.heap[rb]? = some (Obj.cells (ar6 vs) 98 (0, 0))
  row : ∀ k, k < i → wr.ownsRow w.heap.size 100 3 (vs k) (L.lev k).length ((L.lev k).flatMap spC)
  nil : ∀ k, i ≤ k → vs k = .slice none 0 0
/-- And a level, as far as j. -/
structure LvJ (ws wr : World) (rb i j : Nat) (es : List (List Ent)) (vs : Nat → Value) (v : Value) : Prop where
  tch : Tch (fun k => k = rb) ws wr
  blk : wr.heap[rb]? = some (Obj.cells (ar6 (fun k => if k = i then v else vs k)) 98 (0, 0))
  row : wr.ownsRow ws.heap.size 100 3 v j ((es.take j).flatMap spC)
theorem LvI.next {w ws wr : World} {rb i : Nat} {L : Lg} {vs : Nat → Value} {v : Value} (h : LvI w ws rb i L vs) (hj : LvJ ws wr rb i (L.lev i).length (L.lev i) vs v) : LvI w wr rb (i + 1) L (fun k => if k = i then v else vs k) := by
  refine ⟨⟨hj.tch.os.trans h.bel.os, hj.tch.tape.trans h.bel.tape, hj.tch.output.trans h.bel.output, Nat.le_trans h.bel.size hj.tch.size, fun k hk => (hj.tch.block k (Nat.lt_of_lt_of_le hk h.bel.size) (by have := h.ge; omega)).trans (h.bel.block k hk)⟩, h.ge, hj.blk, fun k hk => ?_, fun k hk => ?_⟩
  · by_cases e : k = i
    · subst e
      simp only [if_pos]
      have := hj.row
      rw [List.take_length] at this
      exact own_base this h.bel.size
    · simp only [if_neg e]
      have hr := h.row k (by omega)
      exact own_same hr (fun g hg => hj.tch.block g (own_block hr hg).2.1 (fun q => by
        subst q
        obtain ⟨_, _, D, hD⟩ := own_block hr hg
        exact absurd (cells_ty h.blk hD) (by decide)))
  · simp only [if_neg (show ¬ k = i by omega)]
    exact h.nil k (by omega)
theorem LvJ.more {ws wr w5 W5 : World} {rb i j : Nat} {es : List (List Ent)} {vs : Nat → Value} {v v5 : Value} {o : Obj} (h : LvJ ws wr rb i j es vs v) (hi : i < 6) (hj : j < es.length) (hrb : rb < ws.heap.size) (hb : Below wr.heap.size wr w5)
    (o5 : W5.ownsRow ws.heap.size 100 3 v5 (j + 1) ((es.take j).flatMap spC ++ spC (es.getD j []))) (g5 : (w5.alloc o).grownBy W5 v.ownBlock) :
    W5.heap[rb]? = some (Obj.cells (ar6 (fun k => if k = i then v else vs k)) 98 (0, 0)) ∧ LvJ ws (W5.setCell ⟨rb, i, none⟩ v5) rb i (j + 1) es vs v5 := by
  have hsz := h.tch.size
  have hsz2 := hb.size
  have hvb : ∀ g, some g = v.ownBlock → ws.heap.size ≤ g := fun g hg => (own_block h.row hg).1
  have hold : ∀ k, k < wr.heap.size → some k ≠ v.ownBlock → W5.heap[k]? = wr.heap[k]? := fun k hk hne => by
    rw [g5.block k (by simp; omega) hne, Mth.hAO w5 o (r := k) (by omega), hb.block k hk]
  have hrbv : some rb ≠ v.ownBlock := fun q => by have := hvb rb q; omega
  have hblk5 := (hold rb (by omega) hrbv).trans h.blk
  have hsz5 : w5.heap.size + 1 ≤ W5.heap.size := by have := g5.size; simpa using this
  refine ⟨hblk5, ⟨⟨?_, ?_, ?_, ?_, fun k hk hne => ?_⟩, ?_, ?_⟩⟩
  · exact g5.os.trans (hb.os.trans h.tch.os)
  · exact g5.tape.trans (hb.tape.trans h.tch.tape)
  · exact g5.output.trans (hb.output.trans h.tch.output)
  · simp
    omega
  · rw [set_other hne, hold k (by omega) (fun q => by have := hvb k q; omega)]
    exact h.tch.block k hk hne
  · have := setCell_blk (j := i) (v := v5) hblk5
    rw [ar6_set _ _ hi] at this
    rw [this]
    congr 2
    unfold ar6
    simp only
    congr 1
    have e : ∀ k, (if k = i then v5 else if k = i then v else vs k) = if k = i then v5 else vs k := fun k => by split <;> rfl
    simp only [e]
  · have e : (es.take (j + 1)).flatMap spC = (es.take j).flatMap spC ++ spC (es.getD j []) := by
      rw [List.take_add_one, List.flatMap_append, List.getElem?_eq_getElem hj]
      simp [List.getD, List.getElem?_eq_getElem hj]
    rw [e]
    exact own_set_other o5 hblk5 (by decide)

theorem ix6 (w : World) (lr : Nat → Value) {i : Nat} (hi : i < 6) : (Instr.index 74 (.agg #[lr 0, lr 1, lr 2, lr 3, lr 4, lr 5]) (.int .i64 (i : Int))).run Tryz.prog w = .ok (lr i) w := by
  have h := Tryz.underlying74
  rcases (show i = 0 ∨ i = 1 ∨ i = 2 ∨ i = 3 ∨ i = 4 ∨ i = 5 by omega) with rfl | rfl | rfl | rfl | rfl | rfl <;> simp [Instr.index, run_underlying h, asIntOf, go_sem]
theorem mk6 (w : World) : (Instr.makeSlice 96 (.int .i64 6) (.int .i64 6)).run Tryz.prog w = .ok (.slice (some ⟨w.heap.size, 0, none⟩) 6 6) (w.alloc (.cells (ar6 fun _ => .slice none 0 0) 98)) := by
  obtain ⟨j0, hj0, hy0, hy1, hy2⟩ := info_parts Tryz.info98
  have := run_makeSlice (P := Tryz.prog) w 96 98 j0 (.slice none 0 0) Tryz.underlying96 hj0 hy0 .i64 .i64 6 6 (by omega) (by omega) (by rw [hy1]; decide) (by rw [hy2]; decide) (by omega)
  rw [hy1, show (Value.slice none 0 0).cells = #[Value.slice none 0 0] from rfl, made_rep] at this
  exact this
set_option maxRecDepth 100000 in
set_option maxHeartbeats 4000000 in
theorem levels_any {w : World} {ρ : Nat → Nat} {B N lb : Nat} {G : Gh} {L : Lg} (h : LogX w ρ B N lb G L) (hne : ∀ i, i < 6 → ∀ j, j < (L.lev i).length → 0 < ((L.lev i).getD j []).length ∧ ((L.lev i).getD j []).length ≤ 1048576) (hl : ∀ i, i < 6 → (L.lev i).length ≤ 500000) :
    Calls Tryz.prog 39 #[ptrV lb] w fun e w' => ∃ rb vs, e = .returned (.slice (some ⟨rb, 0, none⟩) 6 6) ∧ LvI w w' rb 6 L vs := by
  obtain ⟨i0, hi0, hz0, hz1, hz2⟩ := info_parts Tryz.info100
  have hb1 := below_allocG w (Obj.cells (ar6 fun _ => .slice none 0 0) 98)
  have hk1 := new_blk w (ar6 fun _ => .slice none 0 0) 98
  have hmk := mk6 w
  obtain ⟨w1, hw1⟩ : ∃ w1, w1 = w.alloc (Obj.cells (ar6 fun _ => .slice none 0 0) 98) := ⟨_, rfl⟩
  rw [← hw1] at hb1 hk1 hmk
  obtain ⟨rb, hrb⟩ : ∃ rb, rb = w.heap.size := ⟨_, rfl⟩
  rw [← hrb] at hk1 hmk
  have h1 := h.below hb1
  have LI0 : Hid (LvI w w1 rb 0 L (fun _ => .slice none 0 0)) := ⟨hb1, by omega, hk1, (fun k hk => absurd hk (Nat.not_lt_zero _)), fun _ _ => rfl⟩
  obtain ⟨k8, _⟩ := cell_of (j := 8) (u := G.lr 0) h1.b.blk rfl
  obtain ⟨k9, _⟩ := cell_of (j := 9) (u := G.lr 1) h1.b.blk rfl
  obtain ⟨k10, _⟩ := cell_of (j := 10) (u := G.lr 2) h1.b.blk rfl
  obtain ⟨k11, _⟩ := cell_of (j := 11) (u := G.lr 3) h1.b.blk rfl
  obtain ⟨k12, _⟩ := cell_of (j := 12) (u := G.lr 4) h1.b.blk rfl
  obtain ⟨k13, _⟩ := cell_of (j := 13) (u := G.lr 5) h1.b.blk rfl
  have RD : Hid (∀ W, Below w.heap.size w W → LogX W ρ B N lb G L) := fun W hW => h.below hW
  have HNE := hide hne
  have HL := hide hl
  have HRB := hide hrb
  clear hb1 hk1 hw1 h h1 hne hl hrb
  go_enter Tryz.func39, Tryz.ntmps39
  go_wp2_with fail
  clear k8 k9 k10 k11 k12 k13 hmk
  go_loopw [13] (fun iv wr => ∃ i : Nat, i ≤ 6 ∧ iv = .int .i64 (i : Int) ∧ ∃ vs, LvI w wr rb i L vs) (fun iv _ => 6 - (intOf iv).toNat)
  case atStart => exact ⟨0, by omega, rfl, _, LI0.out⟩
  case round =>
    obtain ⟨i, hi6, rfl, vs, hI⟩ := hrel
    obtain ⟨ws, rfl⟩ : ∃ ws, ws = wr := ⟨_, rfl⟩
    by_cases hlt : i < 6
    · have hX := RD.out ws hI.bel
      have hrow := hX.v.row i hlt
      have hlen := hX.v.len i hlt
      have hseg := hX.v.seg i hlt
      have hix := ix6 ws G.lr hlt
      have hnei := HNE.out i hlt
      have hli := HL.out i hlt
      obtain ⟨va, vc, hva, hvc, hvm⟩ := own_slice hrow
      rw [hva] at hrow
      have hix2 : (Instr.index 74 (.agg #[G.lr 0, G.lr 1, G.lr 2, G.lr 3, G.lr 4, G.lr 5]) (.int .i64 (i : Int))).run Tryz.prog ws = .ok (.slice va (L.lev i).length vc) ws := by rw [hix, hva, hlen]
      clear hix
      have hiI : (i : Int) < 6 := by omega
      have HI := hide hI
      have hrblt : rb < ws.heap.size := (Array.getElem?_eq_some_iff.1 hI.blk).1
      have LJ0 : Hid (LvJ ws ws rb i 0 (L.lev i) vs (.slice none 0 0)) := ⟨Tch.refl _ _, by
        have e : (fun k => if k = i then (Value.slice none 0 0) else vs k) = vs := by
          funext k
          split
          · rename_i q; rw [q]; exact (hI.nil i (Nat.le_refl _)).symm
          · rfl
        rw [e]; exact hI.blk, World.ownsRow_nil _ _ _ _⟩
      unfold maxLen at hvm
      rw [hlen] at hvc
      have HVA := hide hva
      have HLEN := hide hlen
      clear hI hX hrow hseg hva hlen
      go_wp2_with fail
      clear hix2
      go_loopw [19] (fun jv wr => ∃ j : Nat, j ≤ (L.lev i).length ∧ jv = .int .i64 (j : Int) ∧ ∃ v, LvJ ws wr rb i j (L.lev i) vs v) (fun jv _ => (L.lev i).length - (intOf jv).toNat)
      case atStart => exact ⟨0, Nat.zero_le _, rfl, _, LJ0.out⟩
      case round =>
        obtain ⟨j, hjn, rfl, v, hJ⟩ := hrel
        by_cases hjl : j < (L.lev i).length
        · have hbw : Below w.heap.size w wr := ⟨hJ.tch.os.trans HI.out.bel.os, hJ.tch.tape.trans HI.out.bel.tape, hJ.tch.output.trans HI.out.bel.output, Nat.le_trans HI.out.bel.size hJ.tch.size, fun k hk => (hJ.tch.block k (Nat.lt_of_lt_of_le hk HI.out.bel.size) (by have := HI.out.ge; omega)).trans (HI.out.bel.block k hk)⟩
          have hX := RD.out wr hbw
          have hrow := hX.v.row i hlt
          rw [HVA.out, HLEN.out] at hrow
          have hsg := hX.v.seg i hlt j (by rw [HLEN.out]; exact hjl)
          obtain ⟨gv, rfl⟩ := own_some hrow (by omega)
          have cj := own_get hrow (j := j) (u := ptrV ((G.bs i).getD j 0)) (by
            have hjb : j < (G.bs i).length := by rw [HLEN.out]; exact hjl
            simp [List.getD, hjb])
          obtain ⟨n1, n2⟩ := hnei j hjl
          generalize (G.bs i).getD j 0 = sg at *
          have CS : Hid (∀ W, Below wr.heap.size wr W → Calls Tryz.prog 63 #[ptrV sg] W fun e w' => e = .returned (.agg #[.int .i64 (((L.lev i).getD j []).getD 0 e0).seq, .int .i64 (((L.lev i).getD j []).getD (((L.lev i).getD j []).length - 1) e0).seq, .int .i64 (((L.lev i).getD j []).length : Int)]) ∧ Below W.heap.size W w') := fun W hW => shape_any (hsg.below hW) n2 n1
          have hjI : (j : Int) < ((L.lev i).length : Int) := by omega
          obtain ⟨pa, pc, hpv, hpc, hpm⟩ := own_slice hJ.row
          subst hpv
          obtain ⟨ci, fi⟩ := cell_of (j := i) (u := .slice pa j pc) hJ.blk (by rw [ar6_at _ hlt]; simp)
          have HJ := hide hJ
          have hrbr : rb < wr.heap.size := Nat.lt_of_lt_of_le hrblt hJ.tch.size
          have hszj := hJ.tch.size
          unfold maxLen at hpm
          obtain ⟨q0, hq0⟩ : ∃ q0, q0 = (((L.lev i).getD j []).getD 0 e0).seq := ⟨_, rfl⟩
          obtain ⟨q1, hq1⟩ : ∃ q1, q1 = (((L.lev i).getD j []).getD (((L.lev i).getD j []).length - 1) e0).seq := ⟨_, rfl⟩
          obtain ⟨q2, hq2⟩ : ∃ q2, q2 = (((L.lev i).getD j []).length : Int) := ⟨_, rfl⟩
          rw [← hq0, ← hq1, ← hq2] at CS
          have HSP : Hid (spC ((L.lev i).getD j []) = [.int .i64 q0, .int .i64 q1, .int .i64 q2]) := by rw [hq0, hq1, hq2]; rfl
          have HC := hide cj
          clear hJ hX hrow hsg hbw hq0 hq1 hq2
          go_upto_region 8 with fail
          clear cj
          go_region_law
            (first
              | (rw [if_pos (by simp [Region.wanted])]; go_simp; go_at_call 63; refine (CS.out _ (drewB wr)).mono ?_; rintro e w5 ⟨rfl, hb5⟩; have hb5' : Below wr.heap.size wr w5 := below_drew1 hb5; have q14 := (hb5'.cell (p := ⟨rb, i, none⟩) hrbr).trans ci; have r14 := cellA (o := Obj.cells #[.int .i64 q0, .int .i64 q1, .int .i64 q2] 100) q14; have HR5 := hide (own_same HJ.out.row (fun g hg => hb5'.block g (own_block HJ.out.row hg).2.1)); have HB5 := hide hb5'; clear hb5 hb5')
              | (refine step_own_at _ rfl _ _ 98 rfl ws.heap.size 100 i0 (.agg #[.int .i64 0, .int .i64 0, .int .i64 0]) 3 24 Tryz.underlying98 hi0 hz0 hz1 hz2 rfl (by decide) _ _ _ rfl (by exact HR5.out.alloc _) ⟨w5.heap.size, 0, none⟩ 1 1 [.int .i64 q0, .int .i64 q1, .int .i64 q2] rfl rfl (by exact cell_three_new w5 _ _ _ _) (by intro u hu; simp at hu; rcases hu with rfl | rfl | rfl <;> rfl) (by unfold maxLen; omega) (by omega) (by have h2 := HB5.out.size; simp; omega) ?_; intro v6 w6 hown6 hgrow6 _; obtain ⟨a6, c6, rfl, _, _⟩ := own_slice hown6; have HN := hide (HJ.out.more (v5 := .slice a6 (j + 1) c6) hlt hjl hrblt HB5.out (by rw [HSP.out]; exact hown6) hgrow6); obtain ⟨s14, g14⟩ := cell_of (j := i) (u := .slice pa j pc) HN.out.1 (by rw [ar6_at _ hlt]; simp); clear hown6 hgrow6))
          all_goals (
            go_wp2_with fail
            go_roundw
            case rel => exact ⟨j + 1, by omega, by go_num, _, HN.out.2⟩
            case measure => simp [intOf]; omega)
        · obtain rfl : j = (L.lev i).length := by omega
          have HN := hide (HI.out.next hJ)
          clear hJ LJ0 HI
          go_wp2_with fail
          go_roundw
          case rel => exact ⟨i + 1, by omega, by go_num, _, HN.out⟩
          case measure => simp [intOf]; omega
    · obtain rfl : i = 6 := by omega
      have HF := hide hI
      clear hI
      go_wp2_with fail
      go_ret
      exact ⟨rb, vs, rfl, HF.out⟩
end Go.Proofs.YtkncboinfcnklabGreatDoor.Kp

namespace Go.Proofs.YtkncboinfcnklabGreatDoor.Kq
open Go.RowKit Go.Deep Go.Shelf Go.Proofs.YtkncboinfcnklabGreatDoor.Mth Go.Proofs.YtkncboinfcnklabGreatDoor.Kp

/-- How many entries the first levels have. -/
def lvN (L : Lg) : Nat → Nat
  | 0 => 0
  | i + 1 => lvN L i + (L.lev i).flatten.length
theorem spC_at : ∀ {l : List (List Ent)} {j : Nat}, j < l.length → (l.flatMap spC)[j * 3 + 2]? = some (.int .i64 ((l.getD j []).length : Int))
  | f :: l, 0, _ => by simp [spC]
  | f :: l, j + 1, h => by
    have h1 := spC_at (l := l) (j := j) (by simpa using h)
    have e : (j + 1) * 3 + 2 = j * 3 + 2 + 3 := by omega
    rw [e]
    simp only [List.flatMap_cons, spC, List.cons_append, List.nil_append, List.getElem?_cons_succ, List.getD_cons_succ]
    exact h1
theorem take_flat {l : List (List Ent)} {j : Nat} (h : j < l.length) : (l.take (j + 1)).flatten.length = (l.take j).flatten.length + (l.getD j []).length := by
  have e : l.take (j + 1) = l.take j ++ [l.getD j []] := by
    rw [List.take_add_one, List.getElem?_eq_getElem h]
    simp [List.getD, List.getElem?_eq_getElem h]
  rw [e, List.flatten_append, List.length_append]
  simp only [List.flatten_cons, List.flatten_nil, List.append_nil]
theorem lvN_mono (L : Lg) : ∀ {i j : Nat}, i ≤ j → lvN L i ≤ lvN L j := by
  intro i j h
  induction j with
  | zero => rw [show i = 0 by omega]; exact Nat.le_refl _
  | succ j ih =>
    by_cases e : i = j + 1
    · rw [e]; exact Nat.le_refl _
    · exact Nat.le_trans (ih (by omega)) (Nat.le_add_right _ _)

set_option maxRecDepth 100000 in
set_option maxHeartbeats 4000000 in
theorem entries_any {w : World} {ρ : Nat → Nat} {B N lb sb : Nat} {G : Gh} {L : Lg} (h : LogX w ρ B N lb G L) (hc : w.cell? ⟨sb, 0, none⟩ = some (ptrV lb)) (hne : ∀ i, i < 6 → ∀ j, j < (L.lev i).length → 0 < ((L.lev i).getD j []).length ∧ ((L.lev i).getD j []).length ≤ 1048576) (hl : ∀ i, i < 6 → (L.lev i).length ≤ 500000) (hs : lvN L 6 ≤ 1099511627776) :
    Calls Tryz.prog 17 #[ptrV sb] w fun e w' => e = .returned (.int .i64 (lvN L 6 : Int)) ∧ Below w.heap.size w w' := by
  have CL := hide (levels_any h hne hl)
  have HL := hide hl
  clear h hne hl
  go_enter Tryz.func17, Tryz.ntmps17
  go_wp2_with (first | (go_at_call 39; refine CL.out.mono ?_; rintro e w1 ⟨rb, vs, rfl, hI⟩; have HI := hide hI; clear hI))
  go_loopw [3, 5] (fun nv iv wr => ∃ i : Nat, i ≤ 6 ∧ iv = .int .i64 (i : Int) ∧ nv = .int .i64 (lvN L i : Int) ∧ wr = w1) (fun _ iv _ => 6 - (intOf iv).toNat)
  case atStart => exact ⟨0, by omega, rfl, rfl, rfl⟩
  case round =>
    obtain ⟨i, hi6, rfl, rfl, rfl⟩ := hrel
    by_cases hlt : i < 6
    · have hrow := HI.out.row i hlt
      have hli := HL.out i hlt
      obtain ⟨va, vc, hva, hvc, hvm⟩ := own_slice hrow
      obtain ⟨ci, _⟩ := cell_of (j := i) (u := .slice va (L.lev i).length vc) HI.out.blk (by rw [ar6_at _ hlt, hva])
      rw [hva] at hrow
      have hiI : (i : Int) < 6 := by omega
      have hsi : lvN L (i + 1) ≤ lvN L 6 := lvN_mono L (by omega)
      have hsu : lvN L (i + 1) = lvN L i + (L.lev i).flatten.length := rfl
      have HROW := hide hrow
      unfold maxLen at hvm
      clear hrow hva
      go_wp2_with fail
      go_loopw [3, 6] (fun nv jv wr' => ∃ j : Nat, j ≤ (L.lev i).length ∧ jv = .int .i64 (j : Int) ∧ nv = .int .i64 ((lvN L i + ((L.lev i).take j).flatten.length : Nat) : Int) ∧ wr' = wr) (fun _ jv _ => (L.lev i).length - (intOf jv).toNat)
      case atStart => exact ⟨0, Nat.zero_le _, rfl, by simp, rfl⟩
      case round =>
        obtain ⟨j, hjn, rfl, rfl, rfl⟩ := hrel
        by_cases hjl : j < (L.lev i).length
        · obtain ⟨gv, rfl⟩ := own_some HROW.out (by omega)
          have cj := own_get HROW.out (spC_at hjl)
          have htf := take_flat hjl
          have htl : ((L.lev i).take (j + 1)).flatten.length ≤ (L.lev i).flatten.length := by
            have e := congrArg List.length (congrArg List.flatten (List.take_append_drop (j + 1) (L.lev i)))
            rw [List.flatten_append, List.length_append] at e
            omega
          have hjI : (j : Int) < ((L.lev i).length : Int) := by omega
          have HTF := hide htf
          rw [htf] at htl
          clear htf
          generalize ((L.lev i).getD j []).length = m at *
          generalize ((L.lev i).take j).flatten.length = t0 at *
          go_wp2_with fail
          go_roundw
          case rel => exact ⟨j + 1, by omega, by go_num, by rw [HTF.out]; simp only [Int.natCast_add, Int.add_assoc], by first | rfl | trivial⟩
          case measure => simp [intOf]; omega
        · obtain rfl : j = (L.lev i).length := by omega
          have hjI : ¬ ((L.lev i).length : Int) < ((L.lev i).length : Int) := by omega
          go_wp2_with fail
          go_roundw
          case rel => exact ⟨i + 1, by omega, by go_num, by rw [List.take_length]; rfl, by first | rfl | trivial⟩
          case measure => simp [intOf]; omega
    · obtain rfl : i = 6 := by omega
      have HB := hide HI.out.bel
      go_wp2_with fail
      go_ret
      exact ⟨rfl, HB.out⟩
end Go.Proofs.YtkncboinfcnklabGreatDoor.Kq

namespace Go.Proofs.YtkncboinfcnklabGreatDoor.Kq
open Go.RowKit Go.Deep Go.Shelf Go.Proofs.YtkncboinfcnklabGreatDoor.Mth Go.Proofs.YtkncboinfcnklabGreatDoor.Kp

theorem over_lev (m f bk n kp bt : Nat) (rs : List Rc) (i : Nat) : (Lg.over m f bk n kp bt rs).lev i = if i = 5 ∧ (rcP rs).2.length ≠ 0 then [(rcP rs).2] else [] := by
  unfold Lg.over
  by_cases h : (rcP rs).2.length = 0
  · rw [if_pos h, if_neg (fun q => q.2 h)]
    rfl
  · rw [if_neg h]
    by_cases e : i = 5
    · rw [if_pos ⟨e, h⟩]
      show (if i = 5 then _ else _) = _
      rw [if_pos e]
      rfl
    · rw [if_neg (fun q => e q.1)]
      show (if i = 5 then _ else _) = _
      rw [if_neg e]
      rfl
theorem over_lvN (m f bk n kp bt : Nat) (rs : List Rc) : lvN (Lg.over m f bk n kp bt rs) 6 = (rcP rs).2.length := by
  have h : ∀ i, i ≤ 5 → lvN (Lg.over m f bk n kp bt rs) i = 0 := by
    intro i
    induction i with
    | zero => intro _; rfl
    | succ i ih =>
      intro hi
      show lvN _ i + _ = 0
      rw [ih (by omega), over_lev, if_neg (fun q => by omega)]
      rfl
  show lvN _ 5 + _ = _
  rw [h 5 (by omega), over_lev]
  by_cases h0 : (rcP rs).2.length = 0
  · rw [if_neg (fun q => q.2 h0), h0]; rfl
  · rw [if_pos ⟨rfl, h0⟩]; simp
theorem entries_ov {w w1 : World} {B sb lb : Nat} {hb : Xt} {C : Array Value} {all : List Ent} {tls : List Fo} {av tv : Value} {M clock h m f bk n kp bt : Nat} {rs : List Rc} (x : OvR w w1 B sb lb hb C all tls av tv M clock h m f bk n kp bt rs) (hc : w1.cell? ⟨sb, 0, none⟩ = some (ptrV lb)) (hM : M ≤ 400000) :
    Calls Tryz.prog 17 #[ptrV sb] w1 fun e w' => e = .returned (.int .i64 ((rcP rs).2.length : Int)) ∧ Below w1.heap.size w1 w' := by
  obtain ⟨⟨ρ, G, x1, _⟩, ⟨dt, hl⟩, _⟩ := x
  have h1 := hl.len
  have h2 := rcP_es (rs := rs)
  have := entries_any x1.x hc (fun i hi j hj => by
    rw [over_lev] at hj ⊢
    split at hj
    · rename_i q
      rw [if_pos q]
      have : j = 0 := by simpa using hj
      subst this
      have := q.2
      simp
      omega
    · simp at hj) (fun i hi => by
    rw [over_lev]
    split <;> simp) (by rw [over_lvN]; omega)
  rw [over_lvN] at this
  exact this
theorem OvR.below {w w1 w2 : World} {B sb lb : Nat} {hb : Xt} {C : Array Value} {all : List Ent} {tls : List Fo} {av tv : Value} {M clock h m f bk n kp bt : Nat} {rs : List Rc} (x : OvR w w1 B sb lb hb C all tls av tv M clock h m f bk n kp bt rs) (hB : B ≤ w.heap.size) (hb' : Below w1.heap.size w1 w2) : OvR w w2 B sb lb hb C all tls av tv M clock h m f bk n kp bt rs := by
  obtain ⟨⟨ρ, G, x1, x2, x3, x4, x5, x6⟩, hl, bl⟩ := x
  exact ⟨⟨ρ, G, x1.below hb', x2.below hb', x3, (hb'.block h (Array.getElem?_eq_some_iff.1 x4).1).trans x4, x5, x6⟩, hl, bl.trans (belowB hb' (Nat.le_trans hB bl.size))⟩
/-- The shelf beside the new log; its clock is still the elder one. -/
theorem OvR.fin {w w1 : World} {B sb lb : Nat} {hb : Xt} {C : Array Value} {all : List Ent} {tls : List Fo} {av tv : Value} {M clock h m f bk n kp bt : Nat} {rs : List Rc} (x : OvR w w1 B sb lb hb C all tls av tv M clock h m f bk n kp bt rs) (hC : C = #[ptrV lb, ptrV h, .int .i64 (m : Int), .int .i64 (f : Int), .int .i64 (bk : Int), .int .i64 (n : Int), .int .i64 (kp : Int), .int .i64 (bt : Int), av, .int .i64 (clock : Int), hb.tv, .int .i64 (hb.tk : Int), .slice none 0 0, .bool true]) :
    ∃ ρ G, LogAt w1 ρ B 0 lb G (Lg.over m f bk n kp bt rs) ∧ ShM w1 ρ B sb { hb with h := h, sb := G.sb } (shC lb { hb with h := h, sb := G.sb } { Lg.over m f bk n kp bt rs with clock := clock } av (.slice none 0 0)) all [] av (.slice none 0 0) ∧ (G.left = -1 ∧ tb G.dt = rcL rs ∧ G.sf = G.dt.size) := by
  obtain ⟨⟨ρ, G, x1, x2, x3, x4, x5, x6⟩, hl, bl⟩ := x
  obtain ⟨s1, s2, s3, s4, s5, s6, s7, s8, s9⟩ := over_same m f bk n kp bt rs
  refine ⟨ρ, G, x1, ⟨?_, x2.row, World.ownsRow_nil _ _ _ _, x2.rs, x2.ra, (fun g hg => by cases hg), x2.ge, ⟨x2.x.row, x2.x.rx, x4, x5, x6⟩⟩, x3⟩
  rw [x2.blk, hC]
  unfold shC
  simp only [s1, s2, s3, s4, s5, s7]
end Go.Proofs.YtkncboinfcnklabGreatDoor.Kq
