import Derived.Test.YtkncboinfcnklabGreatDoorQ6
import Derived.Lib.SlicesDelete
import Derived.Lib.SliceRun
import Derived.Deep.RegionLaw
import Derived.Deep.MidRow
import Derived.Test.YtkncboinfcnklabGreatDoorQ4
import Derived.Test.YtkncboinfcnklabGreatDoorQ3
import Derived.Maps.OwnSet
import Derived.Maps.OwnOps
namespace Go.Proofs.YtkncboinfcnklabGreatDoor
open Go.RowKit Go.Deep Go.Proofs.YtkncboinfcnklabGreatDoor.Mth

/-- A slice of pointers to these blocks. -/
def RdP (w : World) (v : Value) (bs : List Nat) : Prop :=
  ∃ (a : Option Addr) (c : Nat), v = .slice a bs.length c ∧ bs.length ≤ c ∧ c ≤ maxLen ∧ (bs = [] ∨ ∃ b o, a = some ⟨b, o, none⟩ ∧ ∀ j, j < bs.length → w.cell? ⟨b, o + j, none⟩ = some (.pointer (some ⟨bs.getD j 0, 0, none⟩)))
theorem RdP.below {w w' : World} {v : Value} {bs : List Nat} (h : RdP w v bs) (hb : Below w.heap.size w w') : RdP w' v bs := by
  obtain ⟨a, c, rfl, hc, hm, h⟩ := h
  refine ⟨a, c, rfl, hc, hm, ?_⟩
  rcases h with h | ⟨b, o, rfl, h⟩
  · exact Or.inl h
  · exact Or.inr ⟨b, o, rfl, fun j hj => (hb.cell (p := ⟨b, o + j, none⟩) (World.block_lt_of_cell? _ _ (h j hj))).trans (h j hj)⟩
def wk0 : Wk := ⟨[], none, 0⟩
/-- The workers of a log read so. -/
structure WksRd (w : World) (lb : Nat) (v : Value) (bs : List Nat) (ks : List Wk) : Prop where
  row : RdP w v bs
  len : bs.length = ks.length
  one : ∀ j, j < ks.length → WkRd w lb (bs.getD j 0) (ks.getD j wk0)
  ok : ∀ j, j < ks.length → WkOk (ks.getD j wk0)
  few : ks.length ≤ 4
theorem WksRd.below {w w' : World} {lb : Nat} {v : Value} {bs : List Nat} {ks : List Wk} (h : WksRd w lb v bs ks) (hb : Below w.heap.size w w') : WksRd w' lb v bs ks := ⟨h.row.below hb, h.len, fun j hj => (h.one j hj).below hb, h.ok, h.few⟩

set_option maxHeartbeats 1000000 in
theorem hasTask1_any {w : World} {lb b tb : Nat} {k : Wk} (h : WkRd w lb b k) (hk : WkOk k) (x : Nat) (hx : x ≤ 100) (ht : w.heap[tb]? = some (Obj.cells #[.int .i64 (x : Int), .int .i64 ((x : Int) + 1)] 108 (0, 0))) :
    Calls Tryz.prog 113 #[.pointer (some ⟨b, 0, none⟩), .pointer (some ⟨tb, 0, none⟩)] w fun e w' => e = .returned (.bool (tkIn k x)) ∧ Below w.heap.size w w' := by
  have CH := hideG (wkHas_any h hk x hx)
  obtain ⟨k0, _⟩ := cellG (j := 0) (u := .int .i64 (x : Int)) ht rfl
  obtain ⟨k1, _⟩ := cellG (j := 1) (u := .int .i64 ((x : Int) + 1)) ht rfl
  generalize tkIn k x = bb at *
  go_enter Tryz.func113, Tryz.ntmps113
  go_wp2_with (first | (go_at_call 114; refine CH.out.mono ?_; rintro e w2 ⟨rfl, hb⟩; have HB2 := hideG hb; clear hb))
  go_ret
  exact ⟨rfl, HB2.out⟩

set_option maxRecDepth 100000 in
set_option maxHeartbeats 1000000 in
theorem wkIndex_any {w : World} {lb tb : Nat} {v : Value} {bs : List Nat} {ks : List Wk} (h : WksRd w lb v bs ks) (x : Nat) (hx : x ≤ 100) (ht : w.heap[tb]? = some (Obj.cells #[.int .i64 (x : Int), .int .i64 ((x : Int) + 1)] 108 (0, 0))) :
    Calls Tryz.prog 132 #[v, .func (.func 113) #[] #[.pointer (some ⟨tb, 0, none⟩)]] w fun e w' => ∃ r : Int, e = .returned (.int .i64 r) ∧ decide (0 ≤ r) = ks.any (fun k => tkIn k x) ∧ Below w.heap.size w w' := by
  obtain ⟨a, c, rfl, hc, hm, hp⟩ := h.row
  unfold maxLen at hm
  have hln := h.len
  have HH := hideG h
  have HT := hideG ht
  have HP := hideG hp
  clear h hp ht
  rw [hln] at hc
  generalize hn : ks.length = n at *
  have HN := hideG hn
  clear hn
  rw [hln]
  have HLN := hideG hln
  clear hln
  go_enter Tryz.func132, Tryz.ntmps132
  go_wp2_with fail
  go_loopw [8] (fun i wr => ∃ k : Nat, k ≤ n ∧ i = .int .i64 k ∧ Below w.heap.size w wr ∧ ∀ j, j < k → tkIn (ks.getD j wk0) x = false) (fun i _ => n - (intOf i).toNat)
  case atStart => exact ⟨0, Nat.zero_le _, rfl, Below.refl _ _, fun j hj => absurd hj (Nat.not_lt_zero _)⟩
  case round =>
    obtain ⟨k, hk, rfl, hb, hno⟩ := hrel
    have HBW := hideG hb
    have HNO := hideG hno
    clear hb hno
    by_cases hlt : k < n
    · have C1 := hideG (hasTask1_any ((HH.out.one k (by rw [HN.out]; exact hlt)).below HBW.out) (HH.out.ok k (by rw [HN.out]; exact hlt)) x hx ((HBW.out.block tb (Array.getElem?_eq_some_iff.1 HT.out).1).trans HT.out))
      rcases HP.out with h | ⟨b, o, rfl, h⟩
      · have := HLN.out; rw [h] at this; simp at this; omega
      have d1 := h k (by rw [HLN.out]; exact hlt)
      have d2 : wr.cell? ⟨b, o + k, none⟩ = some (.pointer (some ⟨bs.getD k 0, 0, none⟩)) := (HBW.out.cell (p := ⟨b, o + k, none⟩) (World.block_lt_of_cell? _ _ d1)).trans d1
      clear h d1
      generalize bs.getD k 0 = pb at *
      cases hti : tkIn (ks.getD k wk0) x
      · have HTI := hideG hti
        rw [hti] at C1
        clear hti
        go_wp2_with (first | (go_at_call 113; refine C1.out.mono ?_; rintro e w2 ⟨rfl, hb⟩; have HB2 := hideG (HBW.out.trans (hb.mono HBW.out.size)); clear hb))
        go_roundw
        case rel => exact ⟨k + 1, by omega, by go_num, HB2.out, fun j hj => by
          by_cases c : j = k
          · subst c; exact HTI.out
          · exact HNO.out j (by omega)⟩
        case measure => simp [intOf]; omega
      · have HTI := hideG hti
        rw [hti] at C1
        clear hti
        go_wp2_with (first | (go_at_call 113; refine C1.out.mono ?_; rintro e w2 ⟨rfl, hb⟩; have HB2 := hideG (HBW.out.trans (hb.mono HBW.out.size)); clear hb))
        go_ret
        exact ⟨k, rfl, by
          have hm : ks.any (fun k => tkIn k x) = true := List.any_eq_true.2 ⟨ks.getD k wk0, getDmem (by rw [HN.out]; exact hlt), HTI.out⟩
          rw [hm]; exact decide_eq_true (by omega), HB2.out⟩
    · go_wp2
      go_ret
      exact ⟨-1, rfl, by
        have hm : ks.any (fun k => tkIn k x) = false := List.any_eq_false.2 (fun y hy => by
          obtain ⟨j, hj, e⟩ := List.mem_iff_getElem.1 hy
          have := HNO.out j (by rw [HN.out] at hj; omega)
          rw [show ks.getD j wk0 = y by simp [List.getD, hj, e]] at this
          rw [this]; simp)
        rw [hm]; rfl, HBW.out⟩

set_option maxHeartbeats 1000000 in
theorem wkContains_any {w : World} {lb tb : Nat} {v : Value} {bs : List Nat} {ks : List Wk} (h : WksRd w lb v bs ks) (x : Nat) (hx : x ≤ 100) (ht : w.heap[tb]? = some (Obj.cells #[.int .i64 (x : Int), .int .i64 ((x : Int) + 1)] 108 (0, 0))) :
    Calls Tryz.prog 112 #[v, .func (.func 113) #[] #[.pointer (some ⟨tb, 0, none⟩)]] w fun e w' => e = .returned (.bool (ks.any (fun k => tkIn k x))) ∧ Below w.heap.size w w' := by
  have CI := hideG (wkIndex_any h x hx ht)
  obtain ⟨a, c, rfl, hc, hm, hp⟩ := h.row
  clear h hp ht
  generalize ks.any (fun k => tkIn k x) = bb at *
  go_enter Tryz.func112, Tryz.ntmps112
  go_wp2_with (first | (go_at_call 132; refine CI.out.mono ?_; rintro e w2 ⟨r, rfl, hr, hb⟩; have HR := hideG hr; have HB2 := hideG hb; clear hr hb))
  go_ret
  exact ⟨by rw [← HR.out]; rfl, HB2.out⟩

set_option maxHeartbeats 1000000 in
theorem hasTask_any {w : World} {lb : Nat} {v : Value} {bs : List Nat} {ks : List Wk} (h : WksRd w lb v bs ks) (hv : w.cell? ⟨lb, 14, none⟩ = some v) (x : Nat) (hx : x ≤ 100) :
    Calls Tryz.prog 92 #[.pointer (some ⟨lb, 0, none⟩), tkV x] w fun e w' => e = .returned (.bool (ks.any (fun k => tkIn k x))) ∧ Below w.heap.size w w' := by
  have HB0 := hideG (below_allocG w (Obj.cells #[.int .i64 (x : Int), .int .i64 ((x : Int) + 1)] 108))
  have k0 : (w.alloc (Obj.cells #[.int .i64 (x : Int), .int .i64 ((x : Int) + 1)] 108)).heap[w.heap.size]? = some (Obj.cells #[.int .i64 (x : Int), .int .i64 ((x : Int) + 1)] 108 (0, 0)) := by
    show (w.heap.push _)[w.heap.size]? = _
    rw [Array.getElem?_push, if_pos rfl]
  have CI := hideG (wkContains_any (h.below HB0.out) x hx k0)
  obtain ⟨a, c, rfl, hc, hm, hp⟩ := h.row
  have hv2 := (HB0.out.cell (p := ⟨lb, 14, none⟩) (World.block_lt_of_cell? _ _ hv)).trans hv
  clear h hp k0 hv
  generalize ks.any (fun k => tkIn k x) = bb at *
  go_enter Tryz.func92, Tryz.ntmps92
  go_wp2_with (first | (go_at_call 112; refine CI.out.mono ?_; rintro e w2 ⟨rfl, hb⟩; have HB2 := hideG hb; clear hb))
  go_ret
  exact ⟨rfl, HB0.out.trans (HB2.out.mono HB0.out.size)⟩
end Go.Proofs.YtkncboinfcnklabGreatDoor

namespace Go.Proofs.YtkncboinfcnklabGreatDoor
open Go.RowKit Go.Deep Go.Proofs.YtkncboinfcnklabGreatDoor.Mth

theorem Tryz.info108 : (Tryz.prog.info? 108).map (fun i => (i.zero, i.size, i.bytes)) = some (some (.agg #[.int .i64 0, .int .i64 0]), 2, 16) := by kernel_rfl
theorem Tryz.info70 : (Tryz.prog.info? 70).map (fun i => (i.zero, i.size, i.bytes)) = some (some (.pointer none), 1, 8) := by kernel_rfl

theorem setCells_blk (g : Nat) (t : TypeId) (fr : Nat × Nat) : ∀ (vs : List Value) (o : Nat) (w : World) (cur : Array Value), w.heap[g]? = some (Obj.cells cur t fr) → (w.setCells g o vs).heap[g]? = some (Obj.cells (Lib.lay cur o vs) t fr)
  | [], _, _, _, h => h
  | v :: r, o, w, cur, h => by
    rw [World.setCells, Lib.lay]
    exact setCells_blk g t fr r (o + 1) _ _ (by simp [World.setCell, Array.getElem?_modify, h])
theorem setCells_size (g : Nat) : ∀ (vs : List Value) (o : Nat) (w : World), (w.setCells g o vs).heap.size = w.heap.size
  | [], _, _ => rfl
  | v :: r, o, w => by
    rw [World.setCells, setCells_size g r (o + 1)]
    simp
theorem setCells_tape (g : Nat) : ∀ (vs : List Value) (o : Nat) (w : World), (w.setCells g o vs).tape = w.tape
  | [], _, _ => rfl
  | v :: r, o, w => by
    rw [World.setCells, setCells_tape g r (o + 1)]
    rfl
theorem setCells_os (g : Nat) : ∀ (vs : List Value) (o : Nat) (w : World), (w.setCells g o vs).os = w.os
  | [], _, _ => rfl
  | v :: r, o, w => by
    rw [World.setCells, setCells_os g r (o + 1)]
    rfl
theorem setCells_output (g : Nat) : ∀ (vs : List Value) (o : Nat) (w : World), (w.setCells g o vs).output = w.output
  | [], _, _ => rfl
  | v :: r, o, w => by
    rw [World.setCells, setCells_output g r (o + 1)]
    rfl
theorem setCells_other (g k : Nat) (hk : k ≠ g) : ∀ (vs : List Value) (o : Nat) (w : World), (w.setCells g o vs).heap[k]? = w.heap[k]?
  | [], _, _ => rfl
  | v :: r, o, w => by
    rw [World.setCells, setCells_other g k hk r (o + 1)]
    exact Below.heap_setCell w ⟨g, o, none⟩ v k hk
theorem setCells_grown (w : World) (g o : Nat) (vs : List Value) : w.grownBy (w.setCells g o vs) (some g) :=
  ⟨setCells_os _ _ _ _, setCells_tape _ _ _ _, setCells_output _ _ _ _, by rw [setCells_size]; exact Nat.le_refl _, fun k _ hne => setCells_other g k (fun q => hne (by rw [q])) _ _ _⟩
theorem grownG_trans {w w1 w2 : World} {g : Nat} (h1 : w.grownBy w1 (some g)) (h2 : w1.grownBy w2 (some g)) : w.grownBy w2 (some g) :=
  ⟨h2.os.trans h1.os, h2.tape.trans h1.tape, h2.output.trans h1.output, Nat.le_trans h1.size h2.size, fun k hk hne => (h2.block k (Nat.lt_of_lt_of_le hk h1.size) hne).trans (h1.block k hk hne)⟩

theorem run_clear_any {P : Program} (w : World) (t e ty : TypeId) (z : Value) (ht : P.underlying t = some (.slice e)) (hv : ∀ w, (zeroValue e).run P w = .ok z w) (b o n c : Nat) (hn : 0 < n) (zs : List Value) (hz : (Builtin.zeroCells z.cells n).toList = zs) (h1 : ∀ u ∈ zs, u.oneCell' = true)
    (hc : ∀ j, j < zs.length → (w.cell? ⟨b, o + j, none⟩).isSome = true) (hf : ∀ j, j < zs.length → w.frozen? ⟨b, o + j, none⟩ = false) :
    (Builtin.clear_ #[t] ty #[.slice (some ⟨b, o, none⟩) n c]).run P w = .ok (.tuple #[]) (w.setCells b o zs) := by
  have hst := run_storeCells_cells (P := P) b o zs 0 w (by simpa using hc) (by simpa using hf) h1
  simp only [Nat.add_zero] at hst
  obtain ⟨m, rfl⟩ : ∃ m, n = m + 1 := ⟨n - 1, by omega⟩
  simp [Builtin.clear_, run_underlying ht, hv, hz, hst]

/-- What stands in a row behind the cells from i to j are taken out of its first n. -/
theorem lay_cut {cur : Array Value} {n i j : Nat} {zs : List Value} (hn : n ≤ cur.size) (hij : i ≤ j) (hj : j ≤ n) (hz : zs.length = j - i) :
    (Lib.lay (Lib.lay cur i ((cur.toList.take n).drop j)) (n - (j - i)) zs).toList.take (n - (j - i)) = (cur.toList.take n).take i ++ (cur.toList.take n).drop j := by
  apply List.ext_getElem?
  intro k
  have hl : ((cur.toList.take n).drop j).length = n - j := by simp; omega
  rw [List.getElem?_take]
  by_cases hk : k < n - (j - i)
  · rw [if_pos hk, Array.getElem?_toList, Lib.lay_get? _ _ _ _ (by rw [Lib.lay_size]; omega), if_neg (by omega), Lib.lay_get? _ _ _ _ (by omega)]
    by_cases hki : k < i
    · rw [if_neg (by omega), List.getElem?_append_left (by simp; omega)]
      simp [hki, show k < n by omega]
    · rw [if_pos (by omega), List.getElem?_append_right (by simp; omega)]
      congr 1
      simp; omega
  · rw [if_neg hk, List.getElem?_eq_none]
    simp; omega

/-- What is left of a row of one's own behind Delete. -/
theorem own_cut {w W1 W2 : World} {B : Nat} {e : TypeId} {sz g n cap i j : Nat} {xs zs : List Value} (h : w.ownsRow B e sz (.slice (some ⟨g, 0, none⟩) n cap) n xs) (hij : i ≤ j) (hj : j ≤ n) (hz : zs.length = (j - i) * sz)
    (h1 : W1 = w.setCells g (i * sz) (xs.drop (j * sz))) (h2 : W2 = W1.setCells g ((n - (j - i)) * sz) zs) :
    W2.ownsRow B e sz (.slice (some ⟨g, 0, none⟩) (n - (j - i)) cap) (n - (j - i)) (xs.take (i * sz) ++ xs.drop (j * sz)) ∧ w.grownBy W2 (some g) := by
  obtain ⟨hl, ⟨h0, _⟩ | ⟨g', cap', cur, hv, hB, hb, hc, hm, hs, hx⟩⟩ := h
  · cases h0
  injection hv with hv1 hv2 hv3
  injection hv1 with hv1
  injection hv1 with hv1
  subst hv1 hv3
  have hmul : n * sz ≤ cap * sz := Nat.mul_le_mul_right _ hc
  have hj2 : j * sz ≤ n * sz := Nat.mul_le_mul_right _ hj
  have hi2 : i * sz ≤ j * sz := Nat.mul_le_mul_right _ hij
  have hd : (n - (j - i)) * sz = n * sz - (j * sz - i * sz) := by rw [Nat.sub_mul, Nat.sub_mul]
  have hz2 : zs.length = j * sz - i * sz := by rw [hz, Nat.sub_mul]
  subst h1 h2 hx
  have hcut := lay_cut (cur := cur) (n := n * sz) (i := i * sz) (j := j * sz) (zs := zs) (by omega) hi2 hj2 hz2
  rw [← hd] at hcut
  refine ⟨⟨?_, Or.inr ⟨g, cap, _, rfl, hB, setCells_blk g e (0, 0) _ _ _ _ (setCells_blk g e (0, 0) _ _ _ _ hb), by omega, hm, by rw [Lib.lay_size, Lib.lay_size]; exact hs, ?_⟩⟩, grownG_trans (setCells_grown _ _ _ _) (setCells_grown _ _ _ _)⟩
  · simp only [List.length_append, List.length_take, List.length_drop, Array.length_toList]
    rw [hd]
    omega
  · exact hcut
theorem own_there {w : World} {B : Nat} {e : TypeId} {sz g n cap : Nat} {xs : List Value} (h : w.ownsRow B e sz (.slice (some ⟨g, 0, none⟩) n cap) n xs) {j : Nat} (hj : j < cap * sz) : (w.cell? ⟨g, j, none⟩).isSome = true ∧ w.frozen? ⟨g, j, none⟩ = false := by
  obtain ⟨hl, ⟨h0, _⟩ | ⟨g', cap', cur, hv, hB, hb, hc, hm, hs, hx⟩⟩ := h
  · cases h0
  injection hv with hv1 hv2 hv3
  injection hv1 with hv1
  injection hv1 with hv1
  subst hv1 hv3
  have : j < cur.size := by omega
  constructor
  · simp [World.cell?, hb, this]
  · simp [World.frozen?, hb]
theorem own_get {w : World} {B : Nat} {e : TypeId} {sz g n cap : Nat} {xs : List Value} (h : w.ownsRow B e sz (.slice (some ⟨g, 0, none⟩) n cap) n xs) {j : Nat} {u : Value} (hu : xs[j]? = some u) : w.cell? ⟨g, j, none⟩ = some u := by
  have := h.cells (g := g) rfl j u hu
  have e : (⟨g, 0, none⟩ : Addr).add j = ⟨g, j, none⟩ := by unfold Addr.add; split <;> simp_all
  rwa [e] at this

theorem zero_delTask {n : Nat} (u : Value) (h : u ∈ (Builtin.zeroCells (Value.agg #[.int .i64 0, .int .i64 0]).cells n).toList) : u.oneCell' = true := by
  simp [Builtin.zeroCells, Value.cells] at h
  obtain ⟨k, _, rfl⟩ := h
  rcases Nat.mod_two_eq_zero_or_one k with q | q <;> simp [q, Value.oneCell']
theorem zero_delSeg {n : Nat} (u : Value) (h : u ∈ (Builtin.zeroCells (Value.pointer none).cells n).toList) : u.oneCell' = true := by
  simp [Builtin.zeroCells, Value.cells] at h
  obtain ⟨k, _, rfl⟩ := h
  simp [Nat.mod_one, Value.oneCell']

set_option maxRecDepth 100000 in
set_option maxHeartbeats 4000000 in
theorem delTask_any {w : World} {B g n cap i j : Nat} {xs : List Value} (h : w.ownsRow B 108 2 (.slice (some ⟨g, 0, none⟩) n cap) n xs) (h1 : ∀ u ∈ xs, u.oneCell' = true) (hij : i < j) (hj : j ≤ n) :
    Calls Tryz.prog 129 #[.slice (some ⟨g, 0, none⟩) n cap, .int .i64 (i : Int), .int .i64 (j : Int)] w fun e w' => e = .returned (.slice (some ⟨g, 0, none⟩) (n - (j - i)) cap) ∧ w'.ownsRow B 108 2 (.slice (some ⟨g, 0, none⟩) (n - (j - i)) cap) (n - (j - i)) (xs.take (i * 2) ++ xs.drop (j * 2)) ∧ w.grownBy w' (some g) := by
  obtain ⟨i0, hi0, hz0, hz1, hz2⟩ := info_parts Tryz.info108
  have hl : xs.length = n * 2 := h.1
  obtain ⟨hc, hm⟩ : n ≤ cap ∧ cap ≤ maxLen := by
    rcases h.2 with ⟨h0, _⟩ | ⟨g', cap', cur, hv, hB, hb, hc, hm, hs, hx⟩
    · cases h0
    · injection hv with hv1 hv2 hv3
      subst hv3
      exact ⟨hc, hm⟩
  unfold maxLen at hm
  obtain ⟨news, hnews⟩ : ∃ news, news = xs.drop (j * 2) := ⟨_, rfl⟩
  have hlen : news.length = (n - j) * 2 := by rw [hnews, List.length_drop, hl]; omega
  obtain ⟨A, hA, hsrc⟩ : ∃ A : Addr, (if cap = j then some (⟨g, 0, none⟩ : Addr) else some ⟨g, j * 2, none⟩) = some A ∧ Hid (∀ t u, news[t]? = some u → w.drew.cell? (A.add t) = some u) := by
    by_cases hcj : cap = j
    · refine ⟨⟨g, 0, none⟩, by simp [hcj], fun t u hu => ?_⟩
      have h0 : news.length = 0 := by rw [hlen]; omega
      rw [List.length_eq_zero_iff.1 h0] at hu
      simp at hu
    · refine ⟨⟨g, j * 2, none⟩, by simp [hcj], fun t u hu => ?_⟩
      rw [Addr.add_lit]
      rw [hnews, List.getElem?_drop] at hu
      exact own_get h (by simpa using hu)
  have s1 : Hid (news.length = (n - j) * 2) := hlen
  have s2 : Hid (∀ u ∈ news, u.oneCell' = true) := fun u hu => h1 u (by rw [hnews] at hu; exact List.mem_of_mem_drop hu)
  have s3 : Hid (∀ t, t < news.length → (w.drew.cell? ⟨g, 0 + i * 2 + t, none⟩).isSome = true ∧ w.drew.frozen? ⟨g, 0 + i * 2 + t, none⟩ = false) := fun t ht => by
    rw [Nat.zero_add]
    exact own_there h (j := i * 2 + t) (by rw [hlen] at ht; omega)
  obtain ⟨W1, hW1⟩ : ∃ W1, W1 = w.drew.setCells g (i * 2) news := ⟨_, rfl⟩
  have hW : Hid (W1 = w.drew.setCells g (0 + i * 2) news) := by rw [Nat.zero_add]; exact hW1
  obtain ⟨zs, hzs⟩ : ∃ zs, zs = (Builtin.zeroCells (Value.agg #[.int .i64 0, .int .i64 0]).cells (j - i)).toList := ⟨_, rfl⟩
  have hzl : zs.length = (j - i) * 2 := by rw [hzs]; simp [Builtin.zeroCells, Value.cells]
  have hz1c : ∀ u ∈ zs, u.oneCell' = true := by
    intro u hu
    rw [hzs] at hu
    exact zero_delTask u hu
  have X : Hid (∀ t, t < cap * 2 → (W1.cell? ⟨g, t, none⟩).isSome = true ∧ W1.frozen? ⟨g, t, none⟩ = false) := fun t ht => by
    rw [hW1, World.frozen?_setCells]
    refine ⟨?_, (own_there h ht).2⟩
    have hh := (own_there h ht).1
    exact World.isSome_setCells g news (i * 2) w.drew ⟨g, t, none⟩ hh
  have hcl : ∀ ty, (Builtin.clear_ #[106] ty #[.slice (some ⟨g, (n - (j - i)) * 2, none⟩) (n - (n - (j - i))) (cap - (n - (j - i)))]).run Tryz.prog W1 = .ok (.tuple #[]) (W1.setCells g ((n - (j - i)) * 2) zs) := by
    intro ty
    have := run_clear_any (P := Tryz.prog) W1 106 108 ty (Value.agg #[.int .i64 0, .int .i64 0]) Tryz.underlying106 Tryz.zeroValue108 g ((n - (j - i)) * 2) (n - (n - (j - i))) (cap - (n - (j - i))) (by omega) zs (by rw [hzs, show n - (n - (j - i)) = j - i by omega]) hz1c
      (fun t ht => (X.out ((n - (j - i)) * 2 + t) (by rw [hzl] at ht; omega)).1) (fun t ht => (X.out ((n - (j - i)) * 2 + t) (by rw [hzl] at ht; omega)).2)
    simpa using this
  have FIN : Hid ((W1.setCells g ((n - (j - i)) * 2) zs).ownsRow B 108 2 (.slice (some ⟨g, 0, none⟩) (n - (j - i)) cap) (n - (j - i)) (xs.take (i * 2) ++ xs.drop (j * 2)) ∧ w.grownBy (W1.setCells g ((n - (j - i)) * 2) zs) (some g)) := by
    have hd : w.drew.ownsRow B 108 2 (.slice (some ⟨g, 0, none⟩) n cap) n xs := h
    have := own_cut (W1 := W1) (W2 := W1.setCells g ((n - (j - i)) * 2) zs) hd (Nat.le_of_lt hij) hj hzl (by rw [hW1, hnews]) rfl
    exact ⟨this.1, ⟨this.2.os, this.2.tape, this.2.output, this.2.size, this.2.block⟩⟩
  have hic : i ≤ cap := by omega
  have hjc : j ≤ cap := by omega
  have hin : i + (n - j) = n - (j - i) := by omega
  generalize hrr : n - (j - i) = rr at *
  have hrc : ¬ cap = rr := by omega
  have hrl : rr ≤ n := by omega
  clear hW1 h hnews hlen hz1c hzs h1 hzl hl
  go_enter Tryz.func129, Tryz.ntmps129
  go_wp2_with fail
  go_region_law (refine step_append_room rfl (.tmp 22) (.tmp 25) 106 rfl 108 i0 2 Tryz.underlying106 hi0 hz1 g 0 i cap (by simp [Act.eval, Act.put]) A (n - j) (cap - j) news (by simp [Act.eval, Act.put]) s1.out hsrc.out s2.out (by omega) s3.out ?_; rw [← hW.out, hin])
  go_wp2
  go_ret
  first | exact ⟨rfl, FIN.out⟩ | (have q := FIN.out; rw [Nat.mul_one rr] at q; exact ⟨rfl, q⟩)

set_option maxRecDepth 100000 in
set_option maxHeartbeats 4000000 in
theorem delSeg_any {w : World} {B g n cap i j : Nat} {xs : List Value} (h : w.ownsRow B 70 1 (.slice (some ⟨g, 0, none⟩) n cap) n xs) (h1 : ∀ u ∈ xs, u.oneCell' = true) (hij : i < j) (hj : j ≤ n) :
    Calls Tryz.prog 131 #[.slice (some ⟨g, 0, none⟩) n cap, .int .i64 (i : Int), .int .i64 (j : Int)] w fun e w' => e = .returned (.slice (some ⟨g, 0, none⟩) (n - (j - i)) cap) ∧ w'.ownsRow B 70 1 (.slice (some ⟨g, 0, none⟩) (n - (j - i)) cap) (n - (j - i)) (xs.take (i * 1) ++ xs.drop (j * 1)) ∧ w.grownBy w' (some g) := by
  obtain ⟨i0, hi0, hz0, hz1, hz2⟩ := info_parts Tryz.info70
  have hl : xs.length = n * 1 := h.1
  obtain ⟨hc, hm⟩ : n ≤ cap ∧ cap ≤ maxLen := by
    rcases h.2 with ⟨h0, _⟩ | ⟨g', cap', cur, hv, hB, hb, hc, hm, hs, hx⟩
    · cases h0
    · injection hv with hv1 hv2 hv3
      subst hv3
      exact ⟨hc, hm⟩
  unfold maxLen at hm
  obtain ⟨news, hnews⟩ : ∃ news, news = xs.drop (j * 1) := ⟨_, rfl⟩
  have hlen : news.length = (n - j) * 1 := by rw [hnews, List.length_drop, hl]; omega
  obtain ⟨A, hA, hsrc⟩ : ∃ A : Addr, (if cap = j then some (⟨g, 0, none⟩ : Addr) else some ⟨g, j, none⟩) = some A ∧ Hid (∀ t u, news[t]? = some u → w.drew.cell? (A.add t) = some u) := by
    by_cases hcj : cap = j
    · refine ⟨⟨g, 0, none⟩, by simp [hcj], fun t u hu => ?_⟩
      have h0 : news.length = 0 := by rw [hlen]; omega
      rw [List.length_eq_zero_iff.1 h0] at hu
      simp at hu
    · refine ⟨⟨g, j, none⟩, by simp [hcj], fun t u hu => ?_⟩
      rw [Addr.add_lit]
      rw [hnews, List.getElem?_drop] at hu
      exact own_get h (by simpa using hu)
  have s1 : Hid (news.length = (n - j) * 1) := hlen
  have s2 : Hid (∀ u ∈ news, u.oneCell' = true) := fun u hu => h1 u (by rw [hnews] at hu; exact List.mem_of_mem_drop hu)
  have s3 : Hid (∀ t, t < news.length → (w.drew.cell? ⟨g, 0 + i * 1 + t, none⟩).isSome = true ∧ w.drew.frozen? ⟨g, 0 + i * 1 + t, none⟩ = false) := fun t ht => by
    rw [Nat.zero_add]
    exact own_there h (j := i * 1 + t) (by rw [hlen] at ht; omega)
  obtain ⟨W1, hW1⟩ : ∃ W1, W1 = w.drew.setCells g (i * 1) news := ⟨_, rfl⟩
  have hW : Hid (W1 = w.drew.setCells g (0 + i * 1) news) := by rw [Nat.zero_add]; exact hW1
  obtain ⟨zs, hzs⟩ : ∃ zs, zs = (Builtin.zeroCells (Value.pointer none).cells (j - i)).toList := ⟨_, rfl⟩
  have hzl : zs.length = (j - i) * 1 := by rw [hzs]; simp [Builtin.zeroCells, Value.cells]
  have hz1c : ∀ u ∈ zs, u.oneCell' = true := by
    intro u hu
    rw [hzs] at hu
    exact zero_delSeg u hu
  have X : Hid (∀ t, t < cap * 1 → (W1.cell? ⟨g, t, none⟩).isSome = true ∧ W1.frozen? ⟨g, t, none⟩ = false) := fun t ht => by
    rw [hW1, World.frozen?_setCells]
    refine ⟨?_, (own_there h ht).2⟩
    have hh := (own_there h ht).1
    exact World.isSome_setCells g news (i * 1) w.drew ⟨g, t, none⟩ hh
  have hcl : ∀ ty, (Builtin.clear_ #[68] ty #[.slice (some ⟨g, (n - (j - i)), none⟩) (n - (n - (j - i))) (cap - (n - (j - i)))]).run Tryz.prog W1 = .ok (.tuple #[]) (W1.setCells g ((n - (j - i)) * 1) zs) := by
    intro ty
    have := run_clear_any (P := Tryz.prog) W1 68 70 ty (Value.pointer none) Tryz.underlying68 Tryz.zeroValue70 g ((n - (j - i)) * 1) (n - (n - (j - i))) (cap - (n - (j - i))) (by omega) zs (by rw [hzs, show n - (n - (j - i)) = j - i by omega]) hz1c
      (fun t ht => (X.out ((n - (j - i)) * 1 + t) (by rw [hzl] at ht; omega)).1) (fun t ht => (X.out ((n - (j - i)) * 1 + t) (by rw [hzl] at ht; omega)).2)
    simpa using this
  have FIN : Hid ((W1.setCells g ((n - (j - i)) * 1) zs).ownsRow B 70 1 (.slice (some ⟨g, 0, none⟩) (n - (j - i)) cap) (n - (j - i)) (xs.take (i * 1) ++ xs.drop (j * 1)) ∧ w.grownBy (W1.setCells g ((n - (j - i)) * 1) zs) (some g)) := by
    have hd : w.drew.ownsRow B 70 1 (.slice (some ⟨g, 0, none⟩) n cap) n xs := h
    have := own_cut (W1 := W1) (W2 := W1.setCells g ((n - (j - i)) * 1) zs) hd (Nat.le_of_lt hij) hj hzl (by rw [hW1, hnews]) rfl
    exact ⟨this.1, ⟨this.2.os, this.2.tape, this.2.output, this.2.size, this.2.block⟩⟩
  have hic : i ≤ cap := by omega
  have hjc : j ≤ cap := by omega
  have hin : i + (n - j) = n - (j - i) := by omega
  generalize hrr : n - (j - i) = rr at *
  have hrc : ¬ cap = rr := by omega
  have hrl : rr ≤ n := by omega
  clear hW1 h hnews hlen hz1c hzs h1 hzl hl
  go_enter Tryz.func131, Tryz.ntmps131
  go_wp2_with fail
  go_region_law (refine step_append_room rfl (.tmp 22) (.tmp 25) 68 rfl 70 i0 1 Tryz.underlying68 hi0 hz1 g 0 i cap (by simp [Act.eval, Act.put]) A (n - j) (cap - j) news (by simp [Act.eval, Act.put]) s1.out hsrc.out s2.out (by omega) s3.out ?_; rw [← hW.out, hin])
  go_wp2
  go_ret
  first | exact ⟨rfl, FIN.out⟩ | (have q := FIN.out; rw [Nat.mul_one rr] at q; exact ⟨rfl, q⟩)
end Go.Proofs.YtkncboinfcnklabGreatDoor

namespace Go.Proofs.YtkncboinfcnklabGreatDoor
open Go.RowKit Go.Deep Go.Proofs.YtkncboinfcnklabGreatDoor.Mth

/-- A block that holds a node of a set of numbers. -/
def isN (w : World) (k : Nat) : Prop := ∃ C fr, w.heap[k]? = some (Obj.cells C 172 fr)
theorem inT_typed {w w' : World} (hs : ∀ g, isN w g → w'.heap[g]? = w.heap[g]?) : ∀ {T : BT Int}, InT WI.eI w T → InT WI.eI w' T
  | .nil, _ => trivial
  | .node b o a l r, ⟨h0, h1, h2, h3, h4, hl, hr⟩ => by
    have e := hs b h2.2
    have hk : ∀ j, w'.cell? ⟨b, j, none⟩ = w.cell? ⟨b, j, none⟩ := fun j => World.cell?_of_block (w := w) (a := ⟨b, j, none⟩) e
    exact ⟨h0, (hk 0).trans h1, h2.same e, (hk 2).trans h3, (hk 3).trans h4, inT_typed hs hl, inT_typed hs hr⟩

/-- How an element of a map reads: as itself. -/
def idE : Value → Option (DataW Value × List MemPlace) := fun v => some (.held v, [])
def kl (x : ByteArray) : Lit := .string x.data.toList
abbrev zS : DataW Value := .held (.agg #[.pointer none])
theorem idE_inv {v : Value} {d : DataW Value} {ps : List MemPlace} (h : idE v = some (d, ps)) : d = .held v := by
  simp [idE] at h
  exact h.1.symm
theorem key_of (x : ByteArray) (h : x.size ≤ maxLen) : keyOf Tryz.prog 9 (.string x) = some (kl x) := Go.WideMaps.keyOf_string_mk Tryz.underlying9 h
theorem kl_ne {x y : ByteArray} (h : x ≠ y) : kl x ≠ kl y := by
  intro q
  injection q with q
  exact h (by
    have := congrArg List.toArray q
    simp at this
    exact ByteArray.ext this)

/-- The index of a segment, where f tells of each word the numbers of the entries that have it. -/
def Idx (w : World) (mb N : Nat) (f : ByteArray → List Int) : Prop :=
  ∃ D n, w.ownsMap Tryz.prog 9 idE mb n D ∧ n ≤ N ∧ ∀ x : ByteArray, ∃ T : BT Int, D.atKey (kl x) zS = .held (.agg #[T.ptr]) ∧ InT WI.eI w T ∧ (lst T).Pairwise (fun a b : Int => a < b) ∧ lst T = f x
theorem Idx.same {w w' : World} {mb N : Nat} {f : ByteArray → List Int} (h : Idx w mb N f) (hm : w'.heap[mb]? = w.heap[mb]?) (hs : ∀ g, isN w g → w'.heap[g]? = w.heap[g]?) : Idx w' mb N f := by
  obtain ⟨D, n, ⟨es, clock, hb, F, hn, hD⟩, hN, hx⟩ := h
  refine ⟨D, n, ⟨es, clock, hm.trans hb, F, hn, hD⟩, hN, fun x => ?_⟩
  obtain ⟨T, h1, h2, h3⟩ := hx x
  exact ⟨T, h1, inT_typed hs h2, h3⟩
theorem Idx.lt {w : World} {mb N : Nat} {f : ByteArray → List Int} (h : Idx w mb N f) : mb < w.heap.size := by
  obtain ⟨D, n, h, _⟩ := h
  exact h.lt
theorem Idx.notCells {w : World} {mb N : Nat} {f : ByteArray → List Int} (h : Idx w mb N f) : ∃ es c, w.heap[mb]? = some (Obj.map es c) := by
  obtain ⟨D, n, ⟨es, clock, hb, _⟩, _⟩ := h
  exact ⟨es, clock, hb⟩
theorem Idx.mono {w : World} {mb N N' : Nat} {f : ByteArray → List Int} (h : Idx w mb N f) (hN : N ≤ N') : Idx w mb N' f := by
  obtain ⟨D, n, h1, h2, h3⟩ := h
  exact ⟨D, n, h1, Nat.le_trans h2 hN, h3⟩
theorem Idx.made (w : World) (N : Nat) : Idx (w.alloc (.map #[] 0)) w.heap.size N (fun _ => []) :=
  ⟨.map [], 0, World.ownsMap_made w _ _ _, Nat.zero_le _, fun _x => ⟨.nil, rfl, trivial, List.Pairwise.nil, rfl⟩⟩

/-- A look-up in an index. -/
theorem Idx.look {w : World} {mb N : Nat} {f : ByteArray → List Int} (h : Idx w mb N f) (x : ByteArray) (hx : x.size ≤ maxLen) :
    ∃ T : BT Int, (Instr.lookup 122 (.map (some mb)) (.string x) false).run Tryz.prog w = .ok (.agg #[T.ptr]) w ∧ InT WI.eI w T ∧ (lst T).Pairwise (fun a b : Int => a < b) ∧ lst T = f x := by
  obtain ⟨D, n, hm, _, hf⟩ := h
  obtain ⟨T, h1, h2, h3⟩ := hf x
  obtain ⟨v, ps, hr, hv⟩ := hm.lookup (Maps.string_keyed Tryz.underlying9) Tryz.underlying122 (Tryz.zeroValue128 w) (zd := zS) (zp := []) rfl (key_of x hx)
  have := idE_inv hv
  rw [h1] at this
  injection this with this
  subst this
  exact ⟨T, hr, h2, h3⟩
/-- A word's set is laid anew. -/
theorem Idx.put {w : World} {mb N : Nat} {f : ByteArray → List Int} (h : Idx w mb N f) (x : ByteArray) (hx : x.size ≤ maxLen) (hN : N < maxLen) (T : BT Int) (hT : InT WI.eI w T) (hup : (lst T).Pairwise (fun a b : Int => a < b)) :
    ∃ w', (Instr.mapUpdate 122 (.map (some mb)) (.string x) (.agg #[T.ptr])).run Tryz.prog w = .ok () w' ∧ Idx w' mb (N + 1) (fun y => if y = x then lst T else f y) ∧ w.grownBy w' (some mb) := by
  obtain ⟨D, n, hm, hn, hf⟩ := h
  obtain ⟨w', hr, ho, hg⟩ := hm.update (Maps.string_keyed Tryz.underlying9) Tryz.underlying122 (Nat.lt_of_le_of_lt hn hN) (val := .agg #[T.ptr]) (d := .held (.agg #[T.ptr])) (ps := []) (key_of x hx) rfl
  have hnode : ∀ g, isN w g → w'.heap[g]? = w.heap[g]? := by
    rintro g ⟨C, fr, hC⟩
    refine hg.block g (Array.getElem?_eq_some_iff.1 hC).1 (fun q => ?_)
    injection q with q
    obtain ⟨es, c, hb, _⟩ := hm
    rw [← q, hC] at hb
    cases hb
  refine ⟨w', hr, ⟨_, n + 1, ho, by omega, fun y => ?_⟩, hg⟩
  by_cases hy : y = x
  · subst hy
    exact ⟨T, Maps.atKey_put_same hm.isMap (Maps.string_keyed Tryz.underlying9 |>.key (key_of y hx)) _ _, inT_typed hnode hT, hup, (if_pos rfl).symm⟩
  · obtain ⟨T', h1, h2, h3, h4⟩ := hf y
    exact ⟨T', by rw [Maps.atKey_put_other (kl_ne hy)]; exact h1, inT_typed hnode h2, h3, h4.trans (if_neg hy).symm⟩

/-- A segment: its entries, and of each word the numbers of those that have it. -/
structure SegAt (w : World) (B s : Nat) (es : List Ent) (ev : Value) (mb : Nat) : Prop where
  blk : w.heap[s]? = some (Obj.cells #[ev, .map (some mb)] 124 (0, 0))
  own : w.ownsRow B 49 3 ev es.length (es.flatMap eC)
  idx : Idx w mb (es.length * 64) (fun x => hasUp es x es.length)
  ge : B ≤ s ∧ B ≤ mb
def ownS (s mb : Nat) (ev : Value) (k : Nat) : Prop := k = s ∨ some k = ev.ownBlock ∨ k = mb
theorem SegAt.same {w w' : World} {B s mb : Nat} {es : List Ent} {ev : Value} (h : SegAt w B s es ev mb) (hs : ∀ g, ownS s mb ev g ∨ isN w g → w'.heap[g]? = w.heap[g]?) : SegAt w' B s es ev mb :=
  ⟨(hs s (Or.inl (Or.inl rfl))).trans h.blk, own_same h.own (fun g hg => hs g (Or.inl (Or.inr (Or.inl hg)))), h.idx.same (hs mb (Or.inl (Or.inr (Or.inr rfl)))) (fun g hg => hs g (Or.inr hg)), h.ge⟩
theorem SegAt.ownLt {w : World} {B s mb : Nat} {es : List Ent} {ev : Value} (h : SegAt w B s es ev mb) {k : Nat} (hk : ownS s mb ev k) : k < w.heap.size ∧ B ≤ k ∧ ¬ isN w k := by
  rcases hk with rfl | hk | rfl
  · exact ⟨(Array.getElem?_eq_some_iff.1 h.blk).1, h.ge.1, fun ⟨C, fr, q⟩ => by rw [h.blk] at q; injection q with q; injection q with _ q _; exact absurd q (by decide)⟩
  · obtain ⟨h1, h2, D, hD⟩ := own_block h.own hk
    exact ⟨h2, h1, fun ⟨C, fr, q⟩ => by rw [hD] at q; injection q with q; injection q with _ q _; exact absurd q (by decide)⟩
  · obtain ⟨es', c, hm⟩ := h.idx.notCells
    exact ⟨h.idx.lt, h.ge.2, fun ⟨C, fr, q⟩ => by rw [hm] at q; cases q⟩
theorem isN_lt {w : World} {k : Nat} (h : isN w k) : k < w.heap.size := by
  obtain ⟨C, fr, q⟩ := h
  exact (Array.getElem?_eq_some_iff.1 q).1
theorem SegAt.below {w w' : World} {B s mb : Nat} {es : List Ent} {ev : Value} (h : SegAt w B s es ev mb) (hb : Below w.heap.size w w') : SegAt w' B s es ev mb :=
  h.same fun g hg => hb.block g (by
    rcases hg with hg | hg
    · exact (h.ownLt hg).1
    · exact isN_lt hg)
end Go.Proofs.YtkncboinfcnklabGreatDoor
