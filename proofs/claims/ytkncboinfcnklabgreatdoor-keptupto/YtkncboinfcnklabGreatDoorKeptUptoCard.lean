import Derived.Test.YtkncboinfcnklabGreatDoorCards
import Derived.Test.YtkncboinfcnklabGreatDoorTie
import Derived.Test.YtkncboinfcnklabGreatDoorQ36
import Derived.Test.YtkncboinfcnklabGreatDoorKptFacts3
import Derived.ProofKit
import Derived.OpenShut
import Derived.ShutString
import Derived.ChangeOld
import Derived.JoinedCond
import Derived.Deep.Slices
import Derived.Deep.Strs
import Derived.Deep.DeepHandedRow
import Derived.Deep.DeepWitnessRowRef
import Derived.Lib.LaidTab
import Derived.Lib.LaidU8
namespace Go.Proofs.YtkncboinfcnklabGreatDoor.kpts
open Go.ChangeShapes Go.WideShapes Go.ChangeAt Go.RowKit Go.Deep Go.Proofs.YtkncboinfcnklabGreatDoor.Mth
open Go.ChangeMaps (open_string shut_string)

theorem own : ownKnob Tryz.prog.godebug = none := by kernel_rfl
theorem laidOut : laidOutB Tryz.prog = true := j1
theorem cells3 : Tryz.prog.cellsOf 3 = 1 := by kernel_rfl
theorem cells9 : Tryz.prog.cellsOf 9 = 1 := by kernel_rfl
theorem cellsM : Tryz.prog.cellsOf 42 = 4 := by kernel_rfl
theorem cellsCa : Tryz.prog.cellsOf 23 = 6 := by kernel_rfl
theorem gT : Tryz.prog.globalNamed "strings.asciiSpace" = some 0 := by kernel_rfl
theorem gTType : (Tryz.prog.globals[0]?).map (·.type) = some 168 := by kernel_rfl
theorem cellsT : Tryz.prog.cellsOf 168 = 256 := by kernel_rfl
theorem gP : Tryz.prog.globalNamed "internal/strconv.uint64pow10" = some 4 := by kernel_rfl
theorem gPType : (Tryz.prog.globals[4]?).map (·.type) = some 253 := by kernel_rfl
theorem cellsP : Tryz.prog.cellsOf 253 = 20 := by kernel_rfl
theorem cells64 : Tryz.prog.cellsOf 216 = 1 := by kernel_rfl
theorem cells5 : Tryz.prog.cellsOf 5 = 1 := by kernel_rfl

/-- What the row's list gives: the tables. -/
theorem table {W : World} (h : laidMet Tryz.prog Rows.keptUptoRow.laid W) : Tab W := by
  have hr : Lib.VarReads Tryz.prog W "strings.asciiSpace" Rows.laid_strings_asciiSpace := Lib.laidMet.reads h (.tail _ (.tail _ (.tail _ (.tail _ (.tail _ (.tail _ (.head _)))))))
  obtain ⟨g', t', cs, fuel, p, hg', ht', hvar, hd⟩ := hr
  obtain rfl := Option.some.inj (gT.symm.trans hg')
  obtain rfl := Option.some.inj (gTType.symm.trans ht')
  have e : Rows.laid_strings_asciiSpace (H := Unit) = Lib.tabData .u8 Lib.asciiSpaceTab := by kernel_rfl
  rw [e] at hd
  unfold Tab Lib.TabIs
  rw [hvar, ← Lib.cells_of_tab Tryz.underlying168 Tryz.underlying5 cells5 cellsT hd]
theorem table10 {W : World} (h : laidMet Tryz.prog Rows.keptUptoRow.laid W) : Tab10 W := by
  have hr : Lib.VarReads Tryz.prog W "internal/strconv.uint64pow10" Rows.laid_internal_strconv_uint64pow10 := Lib.laidMet.reads h (.tail _ (.tail _ (.head _)))
  obtain ⟨g', t', cs, fuel, p, hg', ht', hvar, hd⟩ := hr
  obtain rfl := Option.some.inj (gP.symm.trans hg')
  obtain rfl := Option.some.inj (gPType.symm.trans ht')
  have e : Rows.laid_internal_strconv_uint64pow10 (H := Unit) = Lib.tabData .u64 Lib.pow10Tab := by kernel_rfl
  rw [e] at hd
  unfold Tab10 Lib.TabIs
  rw [hvar, ← Lib.cells_of_tab Tryz.underlying253 Tryz.underlying216 cells64 cellsP hd]

theorem tab10_below {w w' : World} {B : Nat} (h : Tab10 w) (hb : Below B w w') (hB : w.heap.size ≤ B) : Tab10 w' := by
  obtain ⟨g, hg⟩ : ∃ g, Tryz.prog.globalNamed "internal/strconv.uint64pow10" = some g := ⟨_, gP⟩
  have hlt : g < w.heap.size := by
    unfold Tab10 Lib.TabIs World.var? at h
    simp only [hg, Option.bind_some] at h
    rcases Nat.lt_or_ge g w.heap.size with c | c
    · exact c
    · rw [Array.getElem?_eq_none c] at h; simp at h
  exact var?_below hb hg (by omega) h
theorem bnd {n : Int} (h : (Lit.int .i64 n).wf = true) : -9223372036854775808 ≤ n ∧ n < 9223372036854775808 := by
  simp [Lit.wf, IntKind.min, IntKind.max, IntKind.signed, IntKind.bits] at h
  omega

theorem one_le {H : Type} (d : DataW H) : 1 ≤ Rows.uptoBulk d := by
  cases d with
  | lit l => cases l <;> simp [Rows.uptoBulk]
  | nil => simp [Rows.uptoBulk]
  | ptr d => simp [Rows.uptoBulk]
  | slice elems spare => simp [Rows.uptoBulk]
  | agg parts => simp [Rows.uptoBulk]
  | iface t d => simp [Rows.uptoBulk]
  | map entries => simp [Rows.uptoBulk]
  | held h => simp [Rows.uptoBulk]
theorem length_le {H : Type} (l : List (DataW H)) : l.length ≤ Rows.uptoBulkAll l := by
  induction l with
  | nil => simp [Rows.uptoBulkAll]
  | cons x r ih => have := one_le x; simp only [Rows.uptoBulkAll, List.length_cons]; omega
theorem part_le {H : Type} {l : List (DataW H)} {x : DataW H} (h : x ∈ l) : Rows.uptoBulk x ≤ Rows.uptoBulkAll l := by
  induction l with
  | nil => cases h
  | cons y r ih =>
    simp only [Rows.uptoBulkAll]
    rcases List.mem_cons.1 h with e | e
    · subst e; omega
    · have := ih e; omega
theorem slice_le {H : Type} (elems spare : List (DataW H)) : elems.length ≤ Rows.uptoBulk (.slice elems spare) := by
  have h1 := length_le elems
  simp only [Rows.uptoBulk]
  omega
theorem elem_le {H : Type} {elems spare : List (DataW H)} {x : DataW H} (h : x ∈ elems) : Rows.uptoBulk x ≤ Rows.uptoBulk (.slice elems spare) := by
  have h1 := part_le h
  simp only [Rows.uptoBulk]
  omega
theorem agg_le {H : Type} {parts : List (DataW H)} {x : DataW H} (h : x ∈ parts) : Rows.uptoBulk x ≤ Rows.uptoBulk (.agg parts) := by
  have h1 := part_le h
  simp only [Rows.uptoBulk]
  omega

theorem five_le {H : Type} (d0 d1 d2 d3 : DataW H) : 5 ≤ Rows.uptoBulk (.agg [d0, d1, d2, d3] : DataW H) := by
  have h0 := one_le d0
  have h1 := one_le d1
  have h2 := one_le d2
  have h3 := one_le d3
  simp only [Rows.uptoBulk, Rows.uptoBulkAll]
  omega
theorem sum_le {H : Type} (n : Nat) : ∀ (l : List (DataW H)), (∀ x ∈ l, n ≤ Rows.uptoBulk x) → n * l.length ≤ Rows.uptoBulkAll l
  | [], _ => by simp [Rows.uptoBulkAll]
  | x :: r, h => by
    have h1 := h x (by simp)
    have h2 := sum_le n r (fun y hy => h y (by simp [hy]))
    simp only [Rows.uptoBulkAll, List.length_cons, Nat.mul_add]
    omega

section
variable {H : Type} {enc : TypeId × Value → H} {W : World}

theorem trod4 {t : TypeId} {f0 f1 f2 f3 : Field} {fuel : Nat} {cs : List Value} {x : DataW H × List MemPlace} (ht : Tryz.prog.underlying t = some (.struct #[f0, f1, f2, f3])) (h : DataW.trod enc Tryz.prog W 0 (fun _ => true) true fuel t cs = some x) :
    ∃ y0 y1 y2 y3 n, x = (.agg [y0.1, y1.1, y2.1, y3.1], y0.2 ++ (y1.2 ++ (y2.2 ++ y3.2))) ∧ cs.length = Tryz.prog.cellsOf t ∧ DataW.trod enc Tryz.prog W 0 (fun _ => true) true n f0.type ((cs.drop f0.offset).take (Tryz.prog.cellsOf f0.type)) = some y0 ∧ DataW.trod enc Tryz.prog W 0 (fun _ => true) true n f1.type ((cs.drop f1.offset).take (Tryz.prog.cellsOf f1.type)) = some y1 ∧ DataW.trod enc Tryz.prog W 0 (fun _ => true) true n f2.type ((cs.drop f2.offset).take (Tryz.prog.cellsOf f2.type)) = some y2 ∧ DataW.trod enc Tryz.prog W 0 (fun _ => true) true n f3.type ((cs.drop f3.offset).take (Tryz.prog.cellsOf f3.type)) = some y3 := by
  obtain ⟨xs, n, _, rfl, hl, hlen, hf⟩ := DataW.trod_struct ht h
  match xs, hlen with
  | [y0, y1, y2, y3], _ => exact ⟨y0, y1, y2, y3, n, by simp, hl, by simpa using hf 0 f0 rfl, by simpa using hf 1 f1 rfl, by simpa using hf 2 f2 rfl, by simpa using hf 3 f3 rfl⟩

theorem trod6 {t : TypeId} {f0 f1 f2 f3 f4 f5 : Field} {fuel : Nat} {cs : List Value} {x : DataW H × List MemPlace} (ht : Tryz.prog.underlying t = some (.struct #[f0, f1, f2, f3, f4, f5])) (h : DataW.trod enc Tryz.prog W 0 (fun _ => true) true fuel t cs = some x) :
    ∃ y0 y1 y2 y3 y4 y5 n, x.1 = .agg [y0.1, y1.1, y2.1, y3.1, y4.1, y5.1] ∧ cs.length = Tryz.prog.cellsOf t ∧ DataW.trod enc Tryz.prog W 0 (fun _ => true) true n f0.type ((cs.drop f0.offset).take (Tryz.prog.cellsOf f0.type)) = some y0 ∧ DataW.trod enc Tryz.prog W 0 (fun _ => true) true n f1.type ((cs.drop f1.offset).take (Tryz.prog.cellsOf f1.type)) = some y1 ∧ DataW.trod enc Tryz.prog W 0 (fun _ => true) true n f2.type ((cs.drop f2.offset).take (Tryz.prog.cellsOf f2.type)) = some y2 ∧ DataW.trod enc Tryz.prog W 0 (fun _ => true) true n f3.type ((cs.drop f3.offset).take (Tryz.prog.cellsOf f3.type)) = some y3 ∧ DataW.trod enc Tryz.prog W 0 (fun _ => true) true n f4.type ((cs.drop f4.offset).take (Tryz.prog.cellsOf f4.type)) = some y4 ∧ DataW.trod enc Tryz.prog W 0 (fun _ => true) true n f5.type ((cs.drop f5.offset).take (Tryz.prog.cellsOf f5.type)) = some y5 := by
  obtain ⟨xs, n, _, rfl, hl, hlen, hf⟩ := DataW.trod_struct ht h
  match xs, hlen with
  | [y0, y1, y2, y3, y4, y5], _ => exact ⟨y0, y1, y2, y3, y4, y5, n, by simp, hl, by simpa using hf 0 f0 rfl, by simpa using hf 1 f1 rfl, by simpa using hf 2 f2 rfl, by simpa using hf 3 f3 rfl, by simpa using hf 4 f4 rfl, by simpa using hf 5 f5 rfl⟩

theorem slice_in {t e : TypeId} {fuel : Nat} {cs : List Value} {x : DataW H × List MemPlace} (ht : Tryz.prog.underlying t = some (.slice e)) (h : DataW.trod enc Tryz.prog W 0 (fun _ => true) true fuel t cs = some x) : ∃ a n c, cs = [.slice a n c] := by
  rcases open_slice ht h with ⟨hcs, _⟩ | ⟨a, l, c, m, n, D, Pl, hcs, _⟩
  · exact ⟨_, _, _, hcs⟩
  · exact ⟨_, _, _, hcs⟩

/-- Moves that came in. -/
theorem moves_in {fuel : Nat} {v : Value} {d : DataW H} {p : List MemPlace} (hf : DataW.trod enc Tryz.prog W 0 (fun _ => true) true fuel 24 [v] = some (d, p)) (hb : Rows.uptoBulk d ≤ 1048576) :
    ∃ l : List Kp.Mv, Kp.RdV W.heap.size W v l ∧ (∀ m ∈ l, Kp.OkM m) ∧ l.length ≤ 210000 := by
  rcases open_slice Tryz.underlying24 hf with ⟨hcs, hx⟩ | ⟨x, len, cap, m, n, D, Pl, hcs, _, hl, hm, hmm, hx, hcell⟩
  · injection hcs with hcs _
    subst hcs
    exact ⟨[], ⟨none, 0, rfl, Nat.le_refl _, by unfold maxLen; omega, Or.inl rfl⟩, (fun E hE => by cases hE), Nat.zero_le _⟩
  · injection hcs with hcs _
    subst hcs
    injection hx with hx _
    have hlm : len ≤ m := by rw [hmm]; split <;> omega
    have hbD : ∀ i, i < len → Rows.uptoBulk (D i) ≤ 1048576 := fun i hi => Nat.le_trans (by rw [hx]; exact elem_le (List.mem_map.2 ⟨i, List.mem_range.2 hi, rfl⟩)) hb
    have each : ∀ i, i < len → ∃ e : (Int × Int × Int) × ByteArray, (W.cell? (x.add (i * 4)) = some (.int .i64 e.1.1) ∧ W.cell? (x.add (i * 4 + 1)) = some (.int .i64 e.1.2.1) ∧ W.cell? (x.add (i * 4 + 2)) = some (.int .i64 e.1.2.2) ∧ W.cell? (x.add (i * 4 + 3)) = some (.string e.2)) ∧ Kp.OkM ⟨e.1.1, e.1.2.1, e.1.2.2, e.2⟩ ∧ 5 ≤ Rows.uptoBulk (D i) := by
      intro i hi
      obtain ⟨cs', h1, h2⟩ := hcell i (by omega)
      rw [cellsM] at h1
      obtain ⟨_, hlen, hc⟩ := World.cells?_some h1
      obtain ⟨y0, y1, y2, y3, n', ey, _, g0, g1, g2, g3⟩ := trod4 Tryz.underlying42 h2
      simp only [cells3, cells9] at g0 g1 g2 g3
      have e0' := hc 0 (by omega)
      have e1' := hc 1 (by omega)
      have e2' := hc 2 (by omega)
      have e3' := hc 3 (by omega)
      rw [add_add] at e0' e1' e2' e3'
      injection ey with ey _
      have h5 : 5 ≤ Rows.uptoBulk (D i) := by rw [ey]; exact five_le _ _ _ _
      have hbi := hbD i hi
      match cs', hlen, g0, g1, g2, g3, e0', e1', e2', e3' with
      | [v0, v1, v2, v3], _, g0, g1, g2, g3, e0', e1', e2', e3' =>
        obtain ⟨a0, f0, _, w0⟩ := DataW.trod_int Tryz.underlying3 g0
        obtain ⟨a1, f1, _, w1⟩ := DataW.trod_int Tryz.underlying3 g1
        obtain ⟨a2, f2, _, w2⟩ := DataW.trod_int Tryz.underlying3 g2
        obtain ⟨a3, f3, ed, _⟩ := DataW.trod_string Tryz.underlying9 g3
        simp at f0 f1 f2 f3
        subst f0 f1 f2 f3
        have b0 := bnd w0
        have b1 := bnd w1
        have b2 := bnd w2
        have hsz : a3.size ≤ 1048576 := by
          have hq : Rows.uptoBulk y3.1 ≤ Rows.uptoBulk (D i) := by rw [ey]; exact agg_le (by simp)
          rw [ed] at hq
          simp [Rows.uptoBulk] at hq
          have e9 : a3.size = a3.data.size := rfl
          omega
        have i0 : Kp.I64 a0 := ⟨by omega, by omega⟩
        have i1 : Kp.I64 a1 := ⟨by omega, by omega⟩
        have i2 : Kp.I64 a2 := ⟨by omega, by omega⟩
        exact ⟨((a0, a1, a2), a3), ⟨by simpa using e0', by simpa using e1', by simpa using e2', by simpa using e3'⟩, ⟨i0, i1, i2, hsz⟩, h5⟩
    obtain ⟨q, hq⟩ := choose_lt each
    have hget : ∀ j, j < len → ((List.range len).map (fun i => (⟨(q i).1.1, (q i).1.2.1, (q i).1.2.2, (q i).2⟩ : Kp.Mv))).getD j Kp.m0 = ⟨(q j).1.1, (q j).1.2.1, (q j).1.2.2, (q j).2⟩ := fun j hj => by simp [List.getD, hj]
    refine ⟨(List.range len).map (fun i => ⟨(q i).1.1, (q i).1.2.1, (q i).1.2.2, (q i).2⟩), ⟨some x, cap, by simp, by simpa using hl, hm, ?_⟩, ?_, ?_⟩
    · by_cases h0 : len = 0
      · subst h0; exact Or.inl rfl
      · right
        obtain ⟨xb, xo, xs⟩ := x
        have hsp : xs = none := by simpa [Addr.add] using World.cell?_spot (hq 0 (by omega)).1.1
        subst hsp
        refine ⟨xb, xo, rfl, by simpa [Addr.add] using World.block_lt_of_cell? _ _ (hq 0 (by omega)).1.1, fun j hj => ?_⟩
        have hj' : j < len := by simpa using hj
        obtain ⟨⟨c0, c1, c2, c3⟩, _⟩ := hq j hj'
        rw [add_plain] at c0 c1 c2 c3
        rw [hget j hj']
        exact ⟨c0, by rw [Nat.add_assoc]; exact c1, by rw [Nat.add_assoc]; exact c2, by rw [Nat.add_assoc]; exact c3⟩
    · intro o ho
      obtain ⟨i, hi, rfl⟩ := List.mem_map.1 ho
      exact (hq i (List.mem_range.1 hi)).2.1
    · have h5 := sum_le 5 ((List.range len).map D) (fun y hy => by
        obtain ⟨i, hi, rfl⟩ := List.mem_map.1 hy
        exact (hq i (List.mem_range.1 hi)).2.2)
      rw [hx] at hb
      simp only [Rows.uptoBulk] at hb
      simp only [List.length_map, List.length_range] at h5 ⊢
      omega
/-- A case that came in. -/
theorem case_in {fuel : Nat} {cs : Array Value} {x : DataW H × List MemPlace} (hs : cs.size = 6) (hf : DataW.trod enc Tryz.prog W 0 (fun _ => true) true fuel 23 cs.toList = some x) :
    ∃ c0 c1 c2 c3 c4 c5 : Int, Value.agg cs = Kp.caV c0 c1 c2 c3 c4 c5 ∧ Kp.I64 c0 ∧ Kp.I64 c1 ∧ Kp.I64 c2 ∧ Kp.I64 c3 ∧ Kp.I64 c4 ∧ Kp.I64 c5 := by
  obtain ⟨l⟩ := cs
  match l, hs with
  | [v0, v1, v2, v3, v4, v5], _ =>
    obtain ⟨y0, y1, y2, y3, y4, y5, n', _, _, g0, g1, g2, g3, g4, g5⟩ := trod6 Tryz.underlying23 hf
    simp only [cells3] at g0 g1 g2 g3 g4 g5
    obtain ⟨a0, f0, _, w0⟩ := DataW.trod_int Tryz.underlying3 g0
    obtain ⟨a1, f1, _, w1⟩ := DataW.trod_int Tryz.underlying3 g1
    obtain ⟨a2, f2, _, w2⟩ := DataW.trod_int Tryz.underlying3 g2
    obtain ⟨a3, f3, _, w3⟩ := DataW.trod_int Tryz.underlying3 g3
    obtain ⟨a4, f4, _, w4⟩ := DataW.trod_int Tryz.underlying3 g4
    obtain ⟨a5, f5, _, w5⟩ := DataW.trod_int Tryz.underlying3 g5
    simp at f0 f1 f2 f3 f4 f5
    subst f0 f1 f2 f3 f4 f5
    have b0 := bnd w0
    have b1 := bnd w1
    have b2 := bnd w2
    have b3 := bnd w3
    have b4 := bnd w4
    have b5 := bnd w5
    exact ⟨a0, a1, a2, a3, a4, a5, rfl, ⟨by omega, by omega⟩, ⟨by omega, by omega⟩, ⟨by omega, by omega⟩, ⟨by omega, by omega⟩, ⟨by omega, by omega⟩, ⟨by omega, by omega⟩⟩
end

set_option maxRecDepth 100000 in
/-- What the walk gives, for every argument and every world that holds the tables. -/
theorem contract (H : Type) (enc : TypeId × Value → H) (W : World) (base : Nat) (args : Array Value) (ds gs : List (DataW H)) (before : List MemPlace)
    (hval : ∀ (j : Nat) t v, Tryz.f3.params[j]? = some t → args[j]? = some v → Value.okWide Tryz.prog W .any base t v)
    (hW : DataW.Whole enc Tryz.prog Tryz.f3.params.toList Rows.keptSpec.vars false W args.toList ds gs before) (hk : Rows.uptoSmall H (ds ++ gs) = true) (hL : laidMet Tryz.prog Rows.keptUptoRow.laid W) :
    Calls Tryz.prog 3 args W fun e W' => ∃ v, e = .returned v ∧ Rows.keptSpec.post enc Tryz.prog Tryz.f3 false true false false W args v W' := by
  have hW' := hW
  obtain ⟨p, q, hA0, hV, rfl, _, _⟩ := hW
  have hA : DataW.TrodAll enc Tryz.prog W 0 (fun _ => true) true Tryz.f3.params.toList args.toList ds p := hA0
  rw [Tryz.params3] at hA hval
  obtain ⟨v0, vs0, d0, ds0, p0, q0, hargs, rfl, rfl, h0, r0⟩ := trodAll_cons hA
  obtain ⟨v1, vs1, d1, ds1, p1, q1, rfl, rfl, rfl, h1, r1⟩ := trodAll_cons r0
  obtain ⟨v2, vs2, d2, ds2, p2, q2, rfl, rfl, rfl, h2, r2⟩ := trodAll_cons r1
  obtain ⟨rfl, rfl, rfl⟩ := trodAll_nil r2
  obtain rfl : args = #[v0, v1, v2] := by cases args; simp_all
  obtain ⟨rfl, rfl⟩ := trodVars_none hV
  have hb : Rows.uptoBulk d1 ≤ 1048576 := by
    have h : Rows.uptoBulkAll (([d0, d1, d2] : List (DataW H)) ++ []) ≤ 1048576 := of_decide_eq_true hk
    simp only [List.cons_append, List.nil_append, Rows.uptoBulkAll] at h
    omega
  obtain ⟨cs, rfl, hcsz⟩ := okWide_struct Tryz.underlying23 (hval 0 23 v0 rfl rfl)
  obtain ⟨a1, len1, cap1, rfl⟩ := okWide_slice Tryz.underlying24 (hval 1 24 v1 rfl rfl)
  obtain ⟨kp, rfl⟩ := okWide_int Tryz.underlying3 (hval 2 3 v2 rfl rfl)
  have lt0 : ∀ x ∈ p0, x.block < W.heap.size := by obtain ⟨m, hm⟩ := h0; exact DataW.trod_lt m _ _ _ hm
  have lt1 : ∀ x ∈ p1, x.block < W.heap.size := by obtain ⟨m, hm⟩ := h1; exact DataW.trod_lt m _ _ _ hm
  have lt2 : ∀ x ∈ p2, x.block < W.heap.size := by obtain ⟨m, hm⟩ := h2; exact DataW.trod_lt m _ _ _ hm
  have h0' := h0
  have h1' := h1
  have h2' := h2
  obtain ⟨fuel0, hf0⟩ := h0
  obtain ⟨fuel1, hf1⟩ := h1
  obtain ⟨fuel2, hf2⟩ := h2
  rw [cellsCa] at hcsz
  simp [Value.cells] at hf1
  obtain ⟨ms, rM, kM, nM⟩ := moves_in hf1 hb
  obtain ⟨c0, c1, c2, c3, c4, c5, ec, i0, i1, i2, i3, i4, i5⟩ := case_in hcsz hf0
  have ht : TabB W.heap.size W := fun W' q => (table hL).below q (Nat.le_refl _)
  have ht' : Tab10B W.heap.size W := fun W' q => tab10_below (table10 hL) q (Nat.le_refl _)
  have ik : Kp.I64 kp := by
    simp [Value.cells] at hf2
    obtain ⟨a2, f2, _, w2⟩ := DataW.trod_int Tryz.underlying3 hf2
    simp at f2
    subst f2
    have b2 := bnd w2
    exact ⟨by omega, by omega⟩
  clear hA0 hf0 hf1 hf2
  have hlaw := Kq.lawK_any W ht ht' c0 c1 c2 c3 c4 c5 kp i0 i1 i2 i3 i4 i5 ik rM kM nM
  rw [← ec] at hlaw
  refine hlaw.mono fun e W' ⟨he, bel⟩ => ?_
  subst he
  exact ⟨_, rfl, _, _, _, [], _, [], hW', trodAll_mk1 (shut_bool Tryz.underlying4 _), (trodAll_cons_mk (Below.trod laidOut (by kernel_rfl) (of_decide_eq_true (by kernel_rfl)) h0' bel lt0) (trodAll_cons_mk (Below.trod laidOut (by kernel_rfl) (of_decide_eq_true (by kernel_rfl)) h1' bel lt1) (trodAll_cons_mk (Below.trod laidOut (by kernel_rfl) (of_decide_eq_true (by kernel_rfl)) h2' bel lt2) trodAll_mk0))), rfl, bel.frame _, fun h => by cases h⟩
/-- A world for the witness: four blocks more, the variables holding what their initialisers lay. -/
noncomputable def laidWorld (os : Os) : World :=
  let N := (World.settled Tryz.prog os).heap.size
  let w0 := World.holding Tryz.prog os ⟨#[.cells (Lib.whiteT.map fun (z : Nat) => Value.int .u16 (z : Int)).toArray 223, .cells #[.slice (some ⟨N, 0, none⟩) 7 7, .slice none 0 0, .int .i64 2] 220, .cells #[.string ⟨#[118, 97, 108, 117, 101, 32, 111, 117, 116, 32, 111, 102, 32, 114, 97, 110, 103, 101]⟩] 260, .cells #[.string ⟨#[105, 110, 118, 97, 108, 105, 100, 32, 115, 121, 110, 116, 97, 120]⟩] 260], #[], []⟩
  let put (h : Array Obj) (g : Nat) (cs : Array Value) : Array Obj := h.modify g fun
    | .cells _ t frozen => .cells cs t frozen
    | o => o
  let h1 := put w0.heap 0 (Lib.asciiSpaceTab.map fun z => Value.int .u8 z).toArray
  let h2 := put h1 1 #[.pointer (some ⟨N + 1, 0, none⟩)]
  let h3 := put h2 4 (([1, 10, 100, 1000, 10000, 100000, 1000000, 10000000, 100000000, 1000000000, 10000000000, 100000000000, 1000000000000, 10000000000000, 100000000000000, 1000000000000000, 10000000000000000, 100000000000000000, 1000000000000000000, 10000000000000000000] : List Int).map fun z => Value.int .u64 z).toArray
  let h4 := put h3 2 #[.iface 258 (.pointer (some ⟨N + 3, 0, none⟩))]
  let h5 := put h4 3 #[.iface 258 (.pointer (some ⟨N + 2, 0, none⟩))]
  let h6 := put h5 5 (([0, 1, 28, 2, 29, 14, 24, 3, 30, 22, 20, 15, 25, 17, 4, 8, 31, 27, 13, 23, 21, 19, 16, 7, 26, 12, 18, 6, 11, 5, 10, 9] : List Int).map fun z => Value.int .u8 z).toArray
  let h7 := put h6 6 (([0, 1, 56, 2, 57, 49, 28, 3, 61, 58, 42, 50, 38, 29, 17, 4, 62, 47, 59, 36, 45, 43, 51, 22, 53, 39, 33, 30, 24, 18, 12, 5, 63, 55, 48, 27, 60, 41, 37, 16, 46, 35, 44, 21, 52, 32, 23, 11, 54, 26, 40, 15, 34, 20, 31, 10, 25, 14, 19, 9, 13, 8, 7, 6] : List Int).map fun z => Value.int .u8 z).toArray
  { w0 with heap := h7 }

def wit : Array Value := #[.agg #[.int .i64 0, .int .i64 0, .int .i64 0, .int .i64 0, .int .i64 0, .int .i64 0], .slice none 0 0, .int .i64 0]

theorem laid_met (os : Os) (args : Array Value) : laidMet Tryz.prog Rows.keptUptoRow.laid ((laidWorld os).forCall (fun _ _ => 0) ⟨#[], args, []⟩).memory :=
  laidMet_of_run' 10 (by kernel_rfl) (by kernel_rfl)

theorem witness_row (os : Os) {H : Type} (enc : TypeId × Value → H) :
    (Rows.OpenSpec.upto Rows.keptSpec).preRow enc Tryz.prog Tryz.f3 Rows.keptUptoRow.domain false Rows.keptUptoRow.laid ((laidWorld os).forCall (fun _ _ => 0) ⟨#[], wit, []⟩).memory wit := by
  have hw : (DataW.whole enc Tryz.prog ((laidWorld os).forCall (fun _ _ => 0) ⟨#[], wit, []⟩).memory Tryz.f3.params.toList Rows.keptSpec.vars false wit.toList 8).map (fun x => (x.1, x.2.1)) =
      some ([.agg [.lit (.int .i64 0), .lit (.int .i64 0), .lit (.int .i64 0), .lit (.int .i64 0), .lit (.int .i64 0), .lit (.int .i64 0)], .nil, .lit (.int .i64 0)], []) := by kernel_rfl
  obtain ⟨⟨x1, x2, x3⟩, hx, hx1⟩ := Option.map_eq_some_iff.1 hw
  simp only [Prod.mk.injEq] at hx1
  obtain ⟨rfl, rfl⟩ := hx1
  exact OpenSpec.preRow_of_cond 8 hx (by kernel_rfl) (fun k hk => by cases hk; kernel_rfl) (by kernel_rfl) (laid_met os _)

set_option maxRecDepth 100000 in
theorem lifted (os : Os) (started : os.Started) (H : Type) (enc : TypeId × Value → H) (F : Stop.Interp) :
    ReturnsInHanded {} Tryz.checked os 3 .any ((Rows.OpenSpec.upto Rows.keptSpec).preRow enc Tryz.prog Tryz.f3 Rows.keptUptoRow.domain false Rows.keptUptoRow.laid) (((Rows.OpenSpec.upto Rows.keptSpec).at F).post enc Tryz.prog Tryz.f3 false true false false) := by
  refine returnsInHanded_of_row (C := Tryz.checked) (s := Rows.OpenSpec.upto Rows.keptSpec) own started (by kernel_rfl) Tryz.func3
    (witness_row_atRef (enc := enc) (C := Tryz.checked) false (laidWorld os) wit rfl (by kernel_rfl) (by kernel_rfl) (by kernel_rfl) (witness_row os enc)) ?_
  intro W base args ds gs before hval hW _ hcond _ hL _ _
  exact contract H enc W base args ds gs before hval hW (hcond _ rfl) hL

theorem said : Rows.KeptUptoSaid :=
  OpenClaim.holds_of_cond 3 Tryz.f3 rfl rfl rfl rfl rfl rfl rfl ⟨rfl, rfl, rfl, rfl, rfl⟩ rfl rfl rfl rfl rfl (by kernel_rfl) Tryz.func3 closed
    (of_decide_eq_true (by kernel_rfl)) (by unfold Func.isWrapper; first | (rw [if_pos (by decide +kernel)]; kernel_rfl) | (rw [if_neg (by decide +kernel)]; exact ⟨rfl, rfl⟩))
    (fun os started H enc _ F => by rw [OpenClaim.pre_eq_preRow]; exact lifted os started H enc F)

theorem plain (f : FuncId) (fn : Func) (hf : Tryz.pinned.checked.prog.funcNamed "almanac/almanackeep.Kept" = some f) (hfn : Tryz.pinned.checked.prog.funcs[f]? = some fn) :
    true = Tryz.pinned.checked.prog.looks [] ∧ ∀ (j : Nat) t, fn.params[j]? = some t → Tryz.pinned.checked.prog.wantsStandIn t = false := by
  obtain rfl : f = 3 := Option.some.inj ((show Tryz.prog.funcNamed "almanac/almanackeep.Kept" = some 3 by kernel_rfl).symm.trans hf) |>.symm
  obtain rfl : fn = Tryz.f3 := (Option.some.inj (Tryz.func3.symm.trans hfn)).symm
  refine ⟨by kernel_rfl, fun j t ht => ?_⟩
  rw [Tryz.params3] at ht
  have hm := Array.mem_of_getElem? ht
  simp at hm
  rcases hm with rfl | rfl | rfl
  · exact (show Tryz.prog.wantsStandIn 23 = false by kernel_rfl)
  · exact (show Tryz.prog.wantsStandIn 24 = false by kernel_rfl)
  · exact (show Tryz.prog.wantsStandIn 3 = false by kernel_rfl)

/-- THE CARD. -/
theorem proved : Rows.KeptUptoCardSaid :=
  Claim7.holds_tied_plain_at .later [] _ _ _ _ said (fun _ h => by cases h) (by kernel_rfl) (fun _ h => by cases h) keptUpto_row_tie rfl ⟨rfl, rfl⟩ (by kernel_rfl) rfl plain (by kernel_rfl)
#print axioms proved
end Go.Proofs.YtkncboinfcnklabGreatDoor.kpts
