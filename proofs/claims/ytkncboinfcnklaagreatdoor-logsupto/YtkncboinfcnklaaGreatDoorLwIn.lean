import Derived.Test.YtkncboinfcnklaaGreatDoorRows
import Derived.Test.YtkncboinfcnklaaGreatDoorU12
import Derived.Test.YtkncboinfcnklaaGreatDoorQ35
import Derived.ProofKit
import Derived.OpenShut
import Derived.ShutString
import Derived.ChangeOld
import Derived.JoinedCond
import Derived.Deep.Slices
import Derived.Deep.Strs
import Derived.Deep.DeepHandedRow
import Derived.Deep.DeepWitnessRowRef
import Derived.Lib.LaidTab
import Derived.Lib.LaidU8
namespace Go.Proofs.YtkncboinfcnklaaGreatDoor.lwin
open Go.ChangeShapes Go.WideShapes Go.ChangeAt Go.RowKit Go.Deep Go.Proofs.YtkncboinfcnklaaGreatDoor.Mth
open Go.ChangeMaps (open_string shut_string)

theorem cells3 : Tryz.prog.cellsOf 3 = 1 := by kernel_rfl
theorem cells9 : Tryz.prog.cellsOf 9 = 1 := by kernel_rfl
theorem cellsO : Tryz.prog.cellsOf 94 = 6 := by kernel_rfl
theorem cellsCf : Tryz.prog.cellsOf 56 = 6 := by kernel_rfl
theorem bnd {n : Int} (h : (Lit.int .i64 n).wf = true) : -9223372036854775808 ≤ n ∧ n < 9223372036854775808 := by
  simp [Lit.wf, IntKind.min, IntKind.max, IntKind.signed, IntKind.bits] at h
  omega

theorem one_le {H : Type} (d : DataW H) : 1 ≤ Rows.uptoBulk d := by
  cases d with
  | lit l => cases l <;> simp [Rows.uptoBulk]
  | nil => simp [Rows.uptoBulk]
  | ptr d => simp [Rows.uptoBulk]
  | slice elems spare => simp [Rows.uptoBulk]
  | agg parts => simp [Rows.uptoBulk]
  | iface t d => simp [Rows.uptoBulk]
  | map entries => simp [Rows.uptoBulk]
  | held h => simp [Rows.uptoBulk]
theorem length_le {H : Type} (l : List (DataW H)) : l.length ≤ Rows.uptoBulkAll l := by
  induction l with
  | nil => simp [Rows.uptoBulkAll]
  | cons x r ih => have := one_le x; simp only [Rows.uptoBulkAll, List.length_cons]; omega
theorem part_le {H : Type} {l : List (DataW H)} {x : DataW H} (h : x ∈ l) : Rows.uptoBulk x ≤ Rows.uptoBulkAll l := by
  induction l with
  | nil => cases h
  | cons y r ih =>
    simp only [Rows.uptoBulkAll]
    rcases List.mem_cons.1 h with e | e
    · subst e; omega
    · have := ih e; omega
theorem slice_le {H : Type} (elems spare : List (DataW H)) : elems.length ≤ Rows.uptoBulk (.slice elems spare) := by
  have h1 := length_le elems
  simp only [Rows.uptoBulk]
  omega
theorem elem_le {H : Type} {elems spare : List (DataW H)} {x : DataW H} (h : x ∈ elems) : Rows.uptoBulk x ≤ Rows.uptoBulk (.slice elems spare) := by
  have h1 := part_le h
  simp only [Rows.uptoBulk]
  omega
theorem agg_le {H : Type} {parts : List (DataW H)} {x : DataW H} (h : x ∈ parts) : Rows.uptoBulk x ≤ Rows.uptoBulk (.agg parts) := by
  have h1 := part_le h
  simp only [Rows.uptoBulk]
  omega
theorem seven_le {H : Type} (d0 d1 d2 d3 d4 d5 : DataW H) : 7 ≤ Rows.uptoBulk (.agg [d0, d1, d2, d3, d4, d5] : DataW H) := by
  have h0 := one_le d0
  have h1 := one_le d1
  have h2 := one_le d2
  have h3 := one_le d3
  have h4 := one_le d4
  have h5 := one_le d5
  simp only [Rows.uptoBulk, Rows.uptoBulkAll]
  omega
theorem sum_le {H : Type} (n : Nat) : ∀ (l : List (DataW H)), (∀ x ∈ l, n ≤ Rows.uptoBulk x) → n * l.length ≤ Rows.uptoBulkAll l
  | [], _ => by simp [Rows.uptoBulkAll]
  | x :: r, h => by
    have h1 := h x (by simp)
    have h2 := sum_le n r (fun y hy => h y (by simp [hy]))
    simp only [Rows.uptoBulkAll, List.length_cons, Nat.mul_add]
    omega

section
variable {H : Type} {enc : TypeId × Value → H} {W : World}

theorem trod4 {t : TypeId} {f0 f1 f2 f3 : Field} {fuel : Nat} {cs : List Value} {x : DataW H × List MemPlace} (ht : Tryz.prog.underlying t = some (.struct #[f0, f1, f2, f3])) (h : DataW.trod enc Tryz.prog W 0 (fun _ => true) true fuel t cs = some x) :
    ∃ y0 y1 y2 y3 n, x = (.agg [y0.1, y1.1, y2.1, y3.1], y0.2 ++ (y1.2 ++ (y2.2 ++ y3.2))) ∧ cs.length = Tryz.prog.cellsOf t ∧ DataW.trod enc Tryz.prog W 0 (fun _ => true) true n f0.type ((cs.drop f0.offset).take (Tryz.prog.cellsOf f0.type)) = some y0 ∧ DataW.trod enc Tryz.prog W 0 (fun _ => true) true n f1.type ((cs.drop f1.offset).take (Tryz.prog.cellsOf f1.type)) = some y1 ∧ DataW.trod enc Tryz.prog W 0 (fun _ => true) true n f2.type ((cs.drop f2.offset).take (Tryz.prog.cellsOf f2.type)) = some y2 ∧ DataW.trod enc Tryz.prog W 0 (fun _ => true) true n f3.type ((cs.drop f3.offset).take (Tryz.prog.cellsOf f3.type)) = some y3 := by
  obtain ⟨xs, n, _, rfl, hl, hlen, hf⟩ := DataW.trod_struct ht h
  match xs, hlen with
  | [y0, y1, y2, y3], _ => exact ⟨y0, y1, y2, y3, n, by simp, hl, by simpa using hf 0 f0 rfl, by simpa using hf 1 f1 rfl, by simpa using hf 2 f2 rfl, by simpa using hf 3 f3 rfl⟩

theorem trod6 {t : TypeId} {f0 f1 f2 f3 f4 f5 : Field} {fuel : Nat} {cs : List Value} {x : DataW H × List MemPlace} (ht : Tryz.prog.underlying t = some (.struct #[f0, f1, f2, f3, f4, f5])) (h : DataW.trod enc Tryz.prog W 0 (fun _ => true) true fuel t cs = some x) :
    ∃ y0 y1 y2 y3 y4 y5 n, x.1 = .agg [y0.1, y1.1, y2.1, y3.1, y4.1, y5.1] ∧ cs.length = Tryz.prog.cellsOf t ∧ DataW.trod enc Tryz.prog W 0 (fun _ => true) true n f0.type ((cs.drop f0.offset).take (Tryz.prog.cellsOf f0.type)) = some y0 ∧ DataW.trod enc Tryz.prog W 0 (fun _ => true) true n f1.type ((cs.drop f1.offset).take (Tryz.prog.cellsOf f1.type)) = some y1 ∧ DataW.trod enc Tryz.prog W 0 (fun _ => true) true n f2.type ((cs.drop f2.offset).take (Tryz.prog.cellsOf f2.type)) = some y2 ∧ DataW.trod enc Tryz.prog W 0 (fun _ => true) true n f3.type ((cs.drop f3.offset).take (Tryz.prog.cellsOf f3.type)) = some y3 ∧ DataW.trod enc Tryz.prog W 0 (fun _ => true) true n f4.type ((cs.drop f4.offset).take (Tryz.prog.cellsOf f4.type)) = some y4 ∧ DataW.trod enc Tryz.prog W 0 (fun _ => true) true n f5.type ((cs.drop f5.offset).take (Tryz.prog.cellsOf f5.type)) = some y5 := by
  obtain ⟨xs, n, _, rfl, hl, hlen, hf⟩ := DataW.trod_struct ht h
  match xs, hlen with
  | [y0, y1, y2, y3, y4, y5], _ => exact ⟨y0, y1, y2, y3, y4, y5, n, by simp, hl, by simpa using hf 0 f0 rfl, by simpa using hf 1 f1 rfl, by simpa using hf 2 f2 rfl, by simpa using hf 3 f3 rfl, by simpa using hf 4 f4 rfl, by simpa using hf 5 f5 rfl⟩

theorem slice_in {t e : TypeId} {fuel : Nat} {cs : List Value} {x : DataW H × List MemPlace} (ht : Tryz.prog.underlying t = some (.slice e)) (h : DataW.trod enc Tryz.prog W 0 (fun _ => true) true fuel t cs = some x) : ∃ a n c, cs = [.slice a n c] := by
  rcases open_slice ht h with ⟨hcs, _⟩ | ⟨a, l, c, m, n, D, Pl, hcs, _⟩
  · exact ⟨_, _, _, hcs⟩
  · exact ⟨_, _, _, hcs⟩

/-- Configurations that came in. -/
theorem cfs_in {fuel : Nat} {v : Value} {d : DataW H} {p : List MemPlace} (hf : DataW.trod enc Tryz.prog W 0 (fun _ => true) true fuel 25 [v] = some (d, p)) :
    ∃ l : List Lw.Cf, Lw.RdC W v l ∧ l.length ≤ Rows.uptoBulk d := by
  rcases open_slice Tryz.underlying25 hf with ⟨hcs, hx⟩ | ⟨x, len, cap, m, n, D, Pl, hcs, _, hl, hm, hmm, hx, hcell⟩
  · injection hcs with hcs _
    subst hcs
    exact ⟨[], ⟨none, 0, rfl, Nat.le_refl _, by unfold maxLen; omega, Or.inl rfl⟩, Nat.zero_le _⟩
  · injection hcs with hcs _
    subst hcs
    injection hx with hx _
    have hlm : len ≤ m := by rw [hmm]; split <;> omega
    have each : ∀ i, i < len → ∃ e : (Int × Int × Int) × (Int × Int × Int), W.cell? (x.add (i * 6)) = some (.int .i64 e.1.1) ∧ W.cell? (x.add (i * 6 + 1)) = some (.int .i64 e.1.2.1) ∧ W.cell? (x.add (i * 6 + 2)) = some (.int .i64 e.1.2.2) ∧ W.cell? (x.add (i * 6 + 3)) = some (.int .i64 e.2.1) ∧ W.cell? (x.add (i * 6 + 4)) = some (.int .i64 e.2.2.1) ∧ W.cell? (x.add (i * 6 + 5)) = some (.int .i64 e.2.2.2) := by
      intro i hi
      obtain ⟨cs', h1, h2⟩ := hcell i (by omega)
      rw [cellsCf] at h1
      obtain ⟨_, hlen, hc⟩ := World.cells?_some h1
      obtain ⟨y0, y1, y2, y3, y4, y5, n', _, _, g0, g1, g2, g3, g4, g5⟩ := trod6 Tryz.underlying56 h2
      simp only [cells3] at g0 g1 g2 g3 g4 g5
      have e0' := hc 0 (by omega)
      have e1' := hc 1 (by omega)
      have e2' := hc 2 (by omega)
      have e3' := hc 3 (by omega)
      have e4' := hc 4 (by omega)
      have e5' := hc 5 (by omega)
      rw [add_add] at e0' e1' e2' e3' e4' e5'
      match cs', hlen, g0, g1, g2, g3, g4, g5, e0', e1', e2', e3', e4', e5' with
      | [v0, v1, v2, v3, v4, v5], _, g0, g1, g2, g3, g4, g5, e0', e1', e2', e3', e4', e5' =>
        obtain ⟨a0, f0, _, _⟩ := DataW.trod_int Tryz.underlying3 g0
        obtain ⟨a1, f1, _, _⟩ := DataW.trod_int Tryz.underlying3 g1
        obtain ⟨a2, f2, _, _⟩ := DataW.trod_int Tryz.underlying3 g2
        obtain ⟨a3, f3, _, _⟩ := DataW.trod_int Tryz.underlying3 g3
        obtain ⟨a4, f4, _, _⟩ := DataW.trod_int Tryz.underlying3 g4
        obtain ⟨a5, f5, _, _⟩ := DataW.trod_int Tryz.underlying3 g5
        simp at f0 f1 f2 f3 f4 f5
        subst f0 f1 f2 f3 f4 f5
        exact ⟨((a0, a1, a2), (a3, a4, a5)), by simpa using e0', by simpa using e1', by simpa using e2', by simpa using e3', by simpa using e4', by simpa using e5'⟩
    obtain ⟨q, hq⟩ := choose_lt each
    have hget : ∀ j, j < len → ((List.range len).map (fun i => (⟨(q i).1.1, (q i).1.2.1, (q i).1.2.2, (q i).2.1, (q i).2.2.1, (q i).2.2.2⟩ : Lw.Cf))).getD j Lw.cf0 = ⟨(q j).1.1, (q j).1.2.1, (q j).1.2.2, (q j).2.1, (q j).2.2.1, (q j).2.2.2⟩ := fun j hj => by simp [List.getD, hj]
    refine ⟨(List.range len).map (fun i => ⟨(q i).1.1, (q i).1.2.1, (q i).1.2.2, (q i).2.1, (q i).2.2.1, (q i).2.2.2⟩), ⟨some x, cap, by simp, by simpa using hl, hm, ?_⟩, ?_⟩
    · by_cases h0 : len = 0
      · subst h0; exact Or.inl rfl
      · right
        obtain ⟨xb, xo, xs⟩ := x
        have hsp : xs = none := by simpa [Addr.add] using World.cell?_spot (hq 0 (by omega)).1
        subst hsp
        refine ⟨xb, xo, rfl, fun j hj => ?_⟩
        have hj' : j < len := by simpa using hj
        obtain ⟨c0, c1, c2, c3, c4, c5⟩ := hq j hj'
        rw [add_plain] at c0 c1 c2 c3 c4 c5
        rw [hget j hj']
        exact ⟨c0, by rw [Nat.add_assoc]; exact c1, by rw [Nat.add_assoc]; exact c2, by rw [Nat.add_assoc]; exact c3, by rw [Nat.add_assoc]; exact c4, by rw [Nat.add_assoc]; exact c5⟩
    · rw [hx]
      have := slice_le ((List.range len).map D) ((List.range (m - len)).map fun j => D (len + j))
      simp only [List.length_map, List.length_range] at this ⊢
      exact this

/-- A script that came in. -/
theorem opsH_in {fuel : Nat} {v : Value} {d : DataW H} {p : List MemPlace} (hf : DataW.trod enc Tryz.prog W 0 (fun _ => true) true fuel 28 [v] = some (d, p)) (hb : Rows.uptoBulk d ≤ 1048576) :
    ∃ l : List Opr, RdO W v l ∧ (∀ o ∈ l, Lw.OkH o) ∧ l.length ≤ 149797 := by
  rcases open_slice Tryz.underlying28 hf with ⟨hcs, hx⟩ | ⟨x, len, cap, m, n, D, Pl, hcs, _, hl, hm, hmm, hx, hcell⟩
  · injection hcs with hcs _
    subst hcs
    exact ⟨[], ⟨none, 0, rfl, Nat.le_refl _, by unfold maxLen; omega, Or.inl rfl⟩, (fun E hE => by cases hE), Nat.zero_le _⟩
  · injection hcs with hcs _
    subst hcs
    injection hx with hx _
    have hlm : len ≤ m := by rw [hmm]; split <;> omega
    have each : ∀ i, i < len → ∃ e : (Int × Int × Int × Int) × (ByteArray × ByteArray), (W.cell? (x.add (i * 6)) = some (.int .i64 e.1.1) ∧ W.cell? (x.add (i * 6 + 1)) = some (.int .i64 e.1.2.1) ∧ W.cell? (x.add (i * 6 + 2)) = some (.int .i64 e.1.2.2.1) ∧ W.cell? (x.add (i * 6 + 3)) = some (.int .i64 e.1.2.2.2) ∧ W.cell? (x.add (i * 6 + 4)) = some (.string e.2.1) ∧ W.cell? (x.add (i * 6 + 5)) = some (.string e.2.2)) ∧ Lw.OkH ⟨e.1.1, e.1.2.1, e.1.2.2.1, e.1.2.2.2, e.2.1, e.2.2⟩ ∧ 7 ≤ Rows.uptoBulk (D i) := by
      intro i hi
      obtain ⟨cs', h1, h2⟩ := hcell i (by omega)
      rw [cellsO] at h1
      obtain ⟨_, hlen, hc⟩ := World.cells?_some h1
      obtain ⟨y0, y1, y2, y3, y4, y5, n', hagg, _, g0, g1, g2, g3, g4, g5⟩ := trod6 Tryz.underlying94 h2
      simp only [cells3, cells9] at g0 g1 g2 g3 g4 g5
      have e0' := hc 0 (by omega)
      have e1' := hc 1 (by omega)
      have e2' := hc 2 (by omega)
      have e3' := hc 3 (by omega)
      have e4' := hc 4 (by omega)
      have e5' := hc 5 (by omega)
      rw [add_add] at e0' e1' e2' e3' e4' e5'
      match cs', hlen, g0, g1, g2, g3, g4, g5, e0', e1', e2', e3', e4', e5' with
      | [v0, v1, v2, v3, v4, v5], _, g0, g1, g2, g3, g4, g5, e0', e1', e2', e3', e4', e5' =>
        obtain ⟨a0, f0, _, _⟩ := DataW.trod_int Tryz.underlying3 g0
        obtain ⟨a1, f1, _, w1⟩ := DataW.trod_int Tryz.underlying3 g1
        obtain ⟨a2, f2, _, w2⟩ := DataW.trod_int Tryz.underlying3 g2
        obtain ⟨a3, f3, _, w3⟩ := DataW.trod_int Tryz.underlying3 g3
        obtain ⟨a4, f4, x4, _⟩ := DataW.trod_string Tryz.underlying9 g4
        obtain ⟨a5, f5, _, _⟩ := DataW.trod_string Tryz.underlying9 g5
        simp at f0 f1 f2 f3 f4 f5
        subst f0 f1 f2 f3 f4 f5
        have b1 := bnd w1
        have b2 := bnd w2
        have b3 := bnd w3
        have h7 : 7 ≤ Rows.uptoBulk (D i) := by
          have e : D i = .agg [y0.1, y1.1, y2.1, y3.1, y4.1, y5.1] := hagg
          rw [e]
          exact seven_le _ _ _ _ _ _
        have hS : a4.size ≤ 1048576 := by
          have q1 : Rows.uptoBulk y4.1 ≤ Rows.uptoBulk (D i) := by
            have e : D i = .agg [y0.1, y1.1, y2.1, y3.1, y4.1, y5.1] := hagg
            rw [e]
            exact agg_le (by simp)
          have q2 : Rows.uptoBulk (D i) ≤ Rows.uptoBulk d := by
            rw [hx]
            exact elem_le (List.mem_map.2 ⟨i, List.mem_range.2 hi, rfl⟩)
          rw [x4] at q1
          simp only [Rows.uptoBulk] at q1
          have q3 : a4.data.toList.length = a4.size := by simp
          omega
        exact ⟨((a0, a1, a2, a3), (a4, a5)), ⟨by simpa using e0', by simpa using e1', by simpa using e2', by simpa using e3', by simpa using e4', by simpa using e5'⟩, ⟨b1, b2, b3, hS⟩, h7⟩
    obtain ⟨q, hq⟩ := choose_lt each
    have hget : ∀ j, j < len → ((List.range len).map (fun i => (⟨(q i).1.1, (q i).1.2.1, (q i).1.2.2.1, (q i).1.2.2.2, (q i).2.1, (q i).2.2⟩ : Opr))).getD j o0 = ⟨(q j).1.1, (q j).1.2.1, (q j).1.2.2.1, (q j).1.2.2.2, (q j).2.1, (q j).2.2⟩ := fun j hj => by simp [List.getD, hj]
    refine ⟨(List.range len).map (fun i => ⟨(q i).1.1, (q i).1.2.1, (q i).1.2.2.1, (q i).1.2.2.2, (q i).2.1, (q i).2.2⟩), ⟨some x, cap, by simp, by simpa using hl, hm, ?_⟩, ?_, ?_⟩
    · by_cases h0 : len = 0
      · subst h0; exact Or.inl rfl
      · right
        obtain ⟨xb, xo, xs⟩ := x
        have hsp : xs = none := by simpa [Addr.add] using World.cell?_spot (hq 0 (by omega)).1.1
        subst hsp
        refine ⟨xb, xo, rfl, fun j hj => ?_⟩
        have hj' : j < len := by simpa using hj
        obtain ⟨⟨c0, c1, c2, c3, c4, c5⟩, _⟩ := hq j hj'
        rw [add_plain] at c0 c1 c2 c3 c4 c5
        rw [hget j hj']
        exact ⟨c0, by rw [Nat.add_assoc]; exact c1, by rw [Nat.add_assoc]; exact c2, by rw [Nat.add_assoc]; exact c3, by rw [Nat.add_assoc]; exact c4, by rw [Nat.add_assoc]; exact c5⟩
    · intro o ho
      obtain ⟨i, hi, rfl⟩ := List.mem_map.1 ho
      exact (hq i (List.mem_range.1 hi)).2.1
    · have h1 := sum_le 7 ((List.range len).map D) (fun y hy => by
        obtain ⟨i, hi, rfl⟩ := List.mem_map.1 hy
        exact (hq i (List.mem_range.1 hi)).2.2)
      have h2 : Rows.uptoBulkAll ((List.range len).map D) ≤ Rows.uptoBulk d := by
        rw [hx]
        simp only [Rows.uptoBulk]
        omega
      simp only [List.length_map, List.length_range] at h1 ⊢
      omega
end
end Go.Proofs.YtkncboinfcnklaaGreatDoor.lwin
