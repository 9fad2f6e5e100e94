import Derived.Test.YtkncboinfcnklaaGreatDoorQ10
import Derived.Lib.SlicesDelete
import Derived.Lib.SliceRun
import Derived.Deep.RegionLaw
import Derived.Deep.MidRow
import Derived.Test.YtkncboinfcnklaaGreatDoorQ8
import Derived.Test.YtkncboinfcnklaaGreatDoorQ5
import Derived.Maps.OwnSet
import Derived.Maps.OwnOps
namespace Go.Proofs.YtkncboinfcnklaaGreatDoor
open Go.RowKit Go.Deep Go.Proofs.YtkncboinfcnklaaGreatDoor.Mth

/-- A slice of pointers to these blocks. -/
def RdP (w : World) (v : Value) (bs : List Nat) : Prop :=
  ∃ (a : Option Addr) (c : Nat), v = .slice a bs.length c ∧ bs.length ≤ c ∧ c ≤ maxLen ∧ (bs = [] ∨ ∃ b o, a = some ⟨b, o, none⟩ ∧ ∀ j, j < bs.length → w.cell? ⟨b, o + j, none⟩ = some (.pointer (some ⟨bs.getD j 0, 0, none⟩)))
theorem RdP.below {w w' : World} {v : Value} {bs : List Nat} (h : RdP w v bs) (hb : Below w.heap.size w w') : RdP w' v bs := by
  obtain ⟨a, c, rfl, hc, hm, h⟩ := h
  refine ⟨a, c, rfl, hc, hm, ?_⟩
  rcases h with h | ⟨b, o, rfl, h⟩
  · exact Or.inl h
  · exact Or.inr ⟨b, o, rfl, fun j hj => (hb.cell (p := ⟨b, o + j, none⟩) (World.block_lt_of_cell? _ _ (h j hj))).trans (h j hj)⟩
def wk0 : Wk := ⟨[], none, 0⟩
/-- The workers of a log read so. -/
structure WksRd (w : World) (lb : Nat) (v : Value) (bs : List Nat) (ks : List Wk) : Prop where
  row : RdP w v bs
  len : bs.length = ks.length
  one : ∀ j, j < ks.length → WkRd w lb (bs.getD j 0) (ks.getD j wk0)
  ok : ∀ j, j < ks.length → WkOk (ks.getD j wk0)
  few : ks.length ≤ 4
theorem WksRd.below {w w' : World} {lb : Nat} {v : Value} {bs : List Nat} {ks : List Wk} (h : WksRd w lb v bs ks) (hb : Below w.heap.size w w') : WksRd w' lb v bs ks := ⟨h.row.below hb, h.len, fun j hj => (h.one j hj).below hb, h.ok, h.few⟩

set_option maxHeartbeats 1000000 in
theorem hasTask1_any {w : World} {lb b tb : Nat} {k : Wk} (h : WkRd w lb b k) (hk : WkOk k) (x : Nat) (hx : x ≤ 100) (ht : w.heap[tb]? = some (Obj.cells #[.int .i64 (x : Int), .int .i64 ((x : Int) + 1)] 137 (0, 0))) :
    Calls Tryz.prog 158 #[.pointer (some ⟨b, 0, none⟩), .pointer (some ⟨tb, 0, none⟩)] w fun e w' => e = .returned (.bool (tkIn k x)) ∧ Below w.heap.size w w' := by
  have CH := hideG (wkHas_any h hk x hx)
  obtain ⟨k0, _⟩ := cellG (j := 0) (u := .int .i64 (x : Int)) ht rfl
  obtain ⟨k1, _⟩ := cellG (j := 1) (u := .int .i64 ((x : Int) + 1)) ht rfl
  generalize tkIn k x = bb at *
  go_enter Tryz.func158, Tryz.ntmps158
  go_wp2_with (first | (go_at_call 159; refine CH.out.mono ?_; rintro e w2 ⟨rfl, hb⟩; have HB2 := hideG hb; clear hb))
  go_ret
  exact ⟨rfl, HB2.out⟩

set_option maxRecDepth 100000 in
set_option maxHeartbeats 1000000 in
theorem wkIndex_any {w : World} {lb tb : Nat} {v : Value} {bs : List Nat} {ks : List Wk} (h : WksRd w lb v bs ks) (x : Nat) (hx : x ≤ 100) (ht : w.heap[tb]? = some (Obj.cells #[.int .i64 (x : Int), .int .i64 ((x : Int) + 1)] 137 (0, 0))) :
    Calls Tryz.prog 222 #[v, .func (.func 158) #[] #[.pointer (some ⟨tb, 0, none⟩)]] w fun e w' => ∃ r : Int, e = .returned (.int .i64 r) ∧ decide (0 ≤ r) = ks.any (fun k => tkIn k x) ∧ Below w.heap.size w w' := by
  obtain ⟨a, c, rfl, hc, hm, hp⟩ := h.row
  unfold maxLen at hm
  have hln := h.len
  have HH := hideG h
  have HT := hideG ht
  have HP := hideG hp
  clear h hp ht
  rw [hln] at hc
  generalize hn : ks.length = n at *
  have HN := hideG hn
  clear hn
  rw [hln]
  have HLN := hideG hln
  clear hln
  go_enter Tryz.func222, Tryz.ntmps222
  go_wp2_with fail
  go_loopw [8] (fun i wr => ∃ k : Nat, k ≤ n ∧ i = .int .i64 k ∧ Below w.heap.size w wr ∧ ∀ j, j < k → tkIn (ks.getD j wk0) x = false) (fun i _ => n - (intOf i).toNat)
  case atStart => exact ⟨0, Nat.zero_le _, rfl, Below.refl _ _, fun j hj => absurd hj (Nat.not_lt_zero _)⟩
  case round =>
    obtain ⟨k, hk, rfl, hb, hno⟩ := hrel
    have HBW := hideG hb
    have HNO := hideG hno
    clear hb hno
    by_cases hlt : k < n
    · have C1 := hideG (hasTask1_any ((HH.out.one k (by rw [HN.out]; exact hlt)).below HBW.out) (HH.out.ok k (by rw [HN.out]; exact hlt)) x hx ((HBW.out.block tb (Array.getElem?_eq_some_iff.1 HT.out).1).trans HT.out))
      rcases HP.out with h | ⟨b, o, rfl, h⟩
      · have := HLN.out; rw [h] at this; simp at this; omega
      have d1 := h k (by rw [HLN.out]; exact hlt)
      have d2 : wr.cell? ⟨b, o + k, none⟩ = some (.pointer (some ⟨bs.getD k 0, 0, none⟩)) := (HBW.out.cell (p := ⟨b, o + k, none⟩) (World.block_lt_of_cell? _ _ d1)).trans d1
      clear h d1
      generalize bs.getD k 0 = pb at *
      cases hti : tkIn (ks.getD k wk0) x
      · have HTI := hideG hti
        rw [hti] at C1
        clear hti
        go_wp2_with (first | (go_at_call 158; refine C1.out.mono ?_; rintro e w2 ⟨rfl, hb⟩; have HB2 := hideG (HBW.out.trans (hb.mono HBW.out.size)); clear hb))
        go_roundw
        case rel => exact ⟨k + 1, by omega, by go_num, HB2.out, fun j hj => by
          by_cases c : j = k
          · subst c; exact HTI.out
          · exact HNO.out j (by omega)⟩
        case measure => simp [intOf]; omega
      · have HTI := hideG hti
        rw [hti] at C1
        clear hti
        go_wp2_with (first | (go_at_call 158; refine C1.out.mono ?_; rintro e w2 ⟨rfl, hb⟩; have HB2 := hideG (HBW.out.trans (hb.mono HBW.out.size)); clear hb))
        go_ret
        exact ⟨k, rfl, by
          have hm : ks.any (fun k => tkIn k x) = true := List.any_eq_true.2 ⟨ks.getD k wk0, getDmem (by rw [HN.out]; exact hlt), HTI.out⟩
          rw [hm]; exact decide_eq_true (by omega), HB2.out⟩
    · go_wp2
      go_ret
      exact ⟨-1, rfl, by
        have hm : ks.any (fun k => tkIn k x) = false := List.any_eq_false.2 (fun y hy => by
          obtain ⟨j, hj, e⟩ := List.mem_iff_getElem.1 hy
          have := HNO.out j (by rw [HN.out] at hj; omega)
          rw [show ks.getD j wk0 = y by simp [List.getD, hj, e]] at this
          rw [this]; simp)
        rw [hm]; rfl, HBW.out⟩

set_option maxHeartbeats 1000000 in
theorem wkContains_any {w : World} {lb tb : Nat} {v : Value} {bs : List Nat} {ks : List Wk} (h : WksRd w lb v bs ks) (x : Nat) (hx : x ≤ 100) (ht : w.heap[tb]? = some (Obj.cells #[.int .i64 (x : Int), .int .i64 ((x : Int) + 1)] 137 (0, 0))) :
    Calls Tryz.prog 157 #[v, .func (.func 158) #[] #[.pointer (some ⟨tb, 0, none⟩)]] w fun e w' => e = .returned (.bool (ks.any (fun k => tkIn k x))) ∧ Below w.heap.size w w' := by
  have CI := hideG (wkIndex_any h x hx ht)
  obtain ⟨a, c, rfl, hc, hm, hp⟩ := h.row
  clear h hp ht
  generalize ks.any (fun k => tkIn k x) = bb at *
  go_enter Tryz.func157, Tryz.ntmps157
  go_wp2_with (first | (go_at_call 222; refine CI.out.mono ?_; rintro e w2 ⟨r, rfl, hr, hb⟩; have HR := hideG hr; have HB2 := hideG hb; clear hr hb))
  go_ret
  exact ⟨by rw [← HR.out]; rfl, HB2.out⟩

set_option maxHeartbeats 1000000 in
theorem hasTask_any {w : World} {lb : Nat} {v : Value} {bs : List Nat} {ks : List Wk} (h : WksRd w lb v bs ks) (hv : w.cell? ⟨lb, 14, none⟩ = some v) (x : Nat) (hx : x ≤ 100) :
    Calls Tryz.prog 99 #[.pointer (some ⟨lb, 0, none⟩), tkV x] w fun e w' => e = .returned (.bool (ks.any (fun k => tkIn k x))) ∧ Below w.heap.size w w' := by
  have HB0 := hideG (below_allocG w (Obj.cells #[.int .i64 (x : Int), .int .i64 ((x : Int) + 1)] 137))
  have k0 : (w.alloc (Obj.cells #[.int .i64 (x : Int), .int .i64 ((x : Int) + 1)] 137)).heap[w.heap.size]? = some (Obj.cells #[.int .i64 (x : Int), .int .i64 ((x : Int) + 1)] 137 (0, 0)) := by
    show (w.heap.push _)[w.heap.size]? = _
    rw [Array.getElem?_push, if_pos rfl]
  have CI := hideG (wkContains_any (h.below HB0.out) x hx k0)
  obtain ⟨a, c, rfl, hc, hm, hp⟩ := h.row
  have hv2 := (HB0.out.cell (p := ⟨lb, 14, none⟩) (World.block_lt_of_cell? _ _ hv)).trans hv
  clear h hp k0 hv
  generalize ks.any (fun k => tkIn k x) = bb at *
  go_enter Tryz.func99, Tryz.ntmps99
  go_wp2_with (first | (go_at_call 157; refine CI.out.mono ?_; rintro e w2 ⟨rfl, hb⟩; have HB2 := hideG hb; clear hb))
  go_ret
  exact ⟨rfl, HB0.out.trans (HB2.out.mono HB0.out.size)⟩
end Go.Proofs.YtkncboinfcnklaaGreatDoor

namespace Go.Proofs.YtkncboinfcnklaaGreatDoor
open Go.RowKit Go.Deep Go.Proofs.YtkncboinfcnklaaGreatDoor.Mth

theorem Tryz.info137 : (Tryz.prog.info? 137).map (fun i => (i.zero, i.size, i.bytes)) = some (some (.agg #[.int .i64 0, .int .i64 0]), 2, 16) := by kernel_rfl
theorem Tryz.info128 : (Tryz.prog.info? 128).map (fun i => (i.zero, i.size, i.bytes)) = some (some (.pointer none), 1, 8) := by kernel_rfl

theorem own_there {w : World} {B : Nat} {e : TypeId} {sz g n cap : Nat} {xs : List Value} (h : w.ownsRow B e sz (.slice (some ⟨g, 0, none⟩) n cap) n xs) {j : Nat} (hj : j < cap * sz) : (w.cell? ⟨g, j, none⟩).isSome = true ∧ w.frozen? ⟨g, j, none⟩ = false := by
  obtain ⟨hl, ⟨h0, _⟩ | ⟨g', cap', cur, hv, hB, hb, hc, hm, hs, hx⟩⟩ := h
  · cases h0
  injection hv with hv1 hv2 hv3
  injection hv1 with hv1
  injection hv1 with hv1
  subst hv1 hv3
  have : j < cur.size := by omega
  constructor
  · simp [World.cell?, hb, this]
  · simp [World.frozen?, hb]
theorem own_get {w : World} {B : Nat} {e : TypeId} {sz g n cap : Nat} {xs : List Value} (h : w.ownsRow B e sz (.slice (some ⟨g, 0, none⟩) n cap) n xs) {j : Nat} {u : Value} (hu : xs[j]? = some u) : w.cell? ⟨g, j, none⟩ = some u := by
  have := h.cells (g := g) rfl j u hu
  have e : (⟨g, 0, none⟩ : Addr).add j = ⟨g, j, none⟩ := by unfold Addr.add; split <;> simp_all
  rwa [e] at this

end Go.Proofs.YtkncboinfcnklaaGreatDoor

namespace Go.Proofs.YtkncboinfcnklaaGreatDoor
open Go.RowKit Go.Deep Go.Proofs.YtkncboinfcnklaaGreatDoor.Mth

/-- A block that holds a node of a set of numbers. -/
def isN (w : World) (k : Nat) : Prop := ∃ C fr, w.heap[k]? = some (Obj.cells C 325 fr)
theorem inT_typed {w w' : World} (hs : ∀ g, isN w g → w'.heap[g]? = w.heap[g]?) : ∀ {T : BT Int}, InT WI.eI w T → InT WI.eI w' T
  | .nil, _ => trivial
  | .node b o a l r, ⟨h0, h1, h2, h3, h4, hl, hr⟩ => by
    have e := hs b h2.2
    have hk : ∀ j, w'.cell? ⟨b, j, none⟩ = w.cell? ⟨b, j, none⟩ := fun j => World.cell?_of_block (w := w) (a := ⟨b, j, none⟩) e
    exact ⟨h0, (hk 0).trans h1, h2.same e, (hk 2).trans h3, (hk 3).trans h4, inT_typed hs hl, inT_typed hs hr⟩

/-- How an element of a map reads: as itself. -/
def idE : Value → Option (DataW Value × List MemPlace) := fun v => some (.held v, [])
def kl (x : ByteArray) : Lit := .string x.data.toList
abbrev zS : DataW Value := .held (.agg #[.pointer none])
theorem idE_inv {v : Value} {d : DataW Value} {ps : List MemPlace} (h : idE v = some (d, ps)) : d = .held v := by
  simp [idE] at h
  exact h.1.symm
theorem key_of (x : ByteArray) (h : x.size ≤ maxLen) : keyOf Tryz.prog 9 (.string x) = some (kl x) := Go.WideMaps.keyOf_string_mk Tryz.underlying9 h
theorem kl_ne {x y : ByteArray} (h : x ≠ y) : kl x ≠ kl y := by
  intro q
  injection q with q
  exact h (by
    have := congrArg List.toArray q
    simp at this
    exact ByteArray.ext this)

/-- The index of a segment, where f tells of each word the numbers of the entries that have it. -/
def Idx (w : World) (mb N : Nat) (f : ByteArray → List Int) : Prop :=
  ∃ D n, w.ownsMap Tryz.prog 9 idE mb n D ∧ n ≤ N ∧ ∀ x : ByteArray, ∃ T : BT Int, D.atKey (kl x) zS = .held (.agg #[T.ptr]) ∧ InT WI.eI w T ∧ (lst T).Pairwise (fun a b : Int => a < b) ∧ lst T = f x
theorem Idx.same {w w' : World} {mb N : Nat} {f : ByteArray → List Int} (h : Idx w mb N f) (hm : w'.heap[mb]? = w.heap[mb]?) (hs : ∀ g, isN w g → w'.heap[g]? = w.heap[g]?) : Idx w' mb N f := by
  obtain ⟨D, n, ⟨es, clock, hb, F, hn, hD⟩, hN, hx⟩ := h
  refine ⟨D, n, ⟨es, clock, hm.trans hb, F, hn, hD⟩, hN, fun x => ?_⟩
  obtain ⟨T, h1, h2, h3⟩ := hx x
  exact ⟨T, h1, inT_typed hs h2, h3⟩
theorem Idx.lt {w : World} {mb N : Nat} {f : ByteArray → List Int} (h : Idx w mb N f) : mb < w.heap.size := by
  obtain ⟨D, n, h, _⟩ := h
  exact h.lt
theorem Idx.notCells {w : World} {mb N : Nat} {f : ByteArray → List Int} (h : Idx w mb N f) : ∃ es c, w.heap[mb]? = some (Obj.map es c) := by
  obtain ⟨D, n, ⟨es, clock, hb, _⟩, _⟩ := h
  exact ⟨es, clock, hb⟩
theorem Idx.mono {w : World} {mb N N' : Nat} {f : ByteArray → List Int} (h : Idx w mb N f) (hN : N ≤ N') : Idx w mb N' f := by
  obtain ⟨D, n, h1, h2, h3⟩ := h
  exact ⟨D, n, h1, Nat.le_trans h2 hN, h3⟩
theorem Idx.made (w : World) (N : Nat) : Idx (w.alloc (.map #[] 0)) w.heap.size N (fun _ => []) :=
  ⟨.map [], 0, World.ownsMap_made w _ _ _, Nat.zero_le _, fun _x => ⟨.nil, rfl, trivial, List.Pairwise.nil, rfl⟩⟩

/-- A look-up in an index. -/
theorem Idx.look {w : World} {mb N : Nat} {f : ByteArray → List Int} (h : Idx w mb N f) (x : ByteArray) (hx : x.size ≤ maxLen) :
    ∃ T : BT Int, (Instr.lookup 196 (.map (some mb)) (.string x) false).run Tryz.prog w = .ok (.agg #[T.ptr]) w ∧ InT WI.eI w T ∧ (lst T).Pairwise (fun a b : Int => a < b) ∧ lst T = f x := by
  obtain ⟨D, n, hm, _, hf⟩ := h
  obtain ⟨T, h1, h2, h3⟩ := hf x
  obtain ⟨v, ps, hr, hv⟩ := hm.lookup (Maps.string_keyed Tryz.underlying9) Tryz.underlying196 (Tryz.zeroValue208 w) (zd := zS) (zp := []) rfl (key_of x hx)
  have := idE_inv hv
  rw [h1] at this
  injection this with this
  subst this
  exact ⟨T, hr, h2, h3⟩
/-- A word's set is laid anew. -/
theorem Idx.put {w : World} {mb N : Nat} {f : ByteArray → List Int} (h : Idx w mb N f) (x : ByteArray) (hx : x.size ≤ maxLen) (hN : N < maxLen) (T : BT Int) (hT : InT WI.eI w T) (hup : (lst T).Pairwise (fun a b : Int => a < b)) :
    ∃ w', (Instr.mapUpdate 196 (.map (some mb)) (.string x) (.agg #[T.ptr])).run Tryz.prog w = .ok () w' ∧ Idx w' mb (N + 1) (fun y => if y = x then lst T else f y) ∧ w.grownBy w' (some mb) := by
  obtain ⟨D, n, hm, hn, hf⟩ := h
  obtain ⟨w', hr, ho, hg⟩ := hm.update (Maps.string_keyed Tryz.underlying9) Tryz.underlying196 (Nat.lt_of_le_of_lt hn hN) (val := .agg #[T.ptr]) (d := .held (.agg #[T.ptr])) (ps := []) (key_of x hx) rfl
  have hnode : ∀ g, isN w g → w'.heap[g]? = w.heap[g]? := by
    rintro g ⟨C, fr, hC⟩
    refine hg.block g (Array.getElem?_eq_some_iff.1 hC).1 (fun q => ?_)
    injection q with q
    obtain ⟨es, c, hb, _⟩ := hm
    rw [← q, hC] at hb
    cases hb
  refine ⟨w', hr, ⟨_, n + 1, ho, by omega, fun y => ?_⟩, hg⟩
  by_cases hy : y = x
  · subst hy
    exact ⟨T, Maps.atKey_put_same hm.isMap (Maps.string_keyed Tryz.underlying9 |>.key (key_of y hx)) _ _, inT_typed hnode hT, hup, (if_pos rfl).symm⟩
  · obtain ⟨T', h1, h2, h3, h4⟩ := hf y
    exact ⟨T', by rw [Maps.atKey_put_other (kl_ne hy)]; exact h1, inT_typed hnode h2, h3, h4.trans (if_neg hy).symm⟩

/-- A segment: its entries, and of each word the numbers of those that have it. -/
structure SegAt (w : World) (B s : Nat) (es : List Ent) (ev : Value) (mb : Nat) : Prop where
  blk : w.heap[s]? = some (Obj.cells #[ev, .map (some mb)] 198 (0, 0))
  own : w.ownsRow B 66 3 ev es.length (es.flatMap eC)
  idx : Idx w mb (es.length * 64) (fun x => hasUp es x es.length)
  ge : B ≤ s ∧ B ≤ mb
def ownS (s mb : Nat) (ev : Value) (k : Nat) : Prop := k = s ∨ some k = ev.ownBlock ∨ k = mb
theorem SegAt.same {w w' : World} {B s mb : Nat} {es : List Ent} {ev : Value} (h : SegAt w B s es ev mb) (hs : ∀ g, ownS s mb ev g ∨ isN w g → w'.heap[g]? = w.heap[g]?) : SegAt w' B s es ev mb :=
  ⟨(hs s (Or.inl (Or.inl rfl))).trans h.blk, own_same h.own (fun g hg => hs g (Or.inl (Or.inr (Or.inl hg)))), h.idx.same (hs mb (Or.inl (Or.inr (Or.inr rfl)))) (fun g hg => hs g (Or.inr hg)), h.ge⟩
theorem SegAt.ownLt {w : World} {B s mb : Nat} {es : List Ent} {ev : Value} (h : SegAt w B s es ev mb) {k : Nat} (hk : ownS s mb ev k) : k < w.heap.size ∧ B ≤ k ∧ ¬ isN w k := by
  rcases hk with rfl | hk | rfl
  · exact ⟨(Array.getElem?_eq_some_iff.1 h.blk).1, h.ge.1, fun ⟨C, fr, q⟩ => by rw [h.blk] at q; injection q with q; injection q with _ q _; exact absurd q (by decide)⟩
  · obtain ⟨h1, h2, D, hD⟩ := own_block h.own hk
    exact ⟨h2, h1, fun ⟨C, fr, q⟩ => by rw [hD] at q; injection q with q; injection q with _ q _; exact absurd q (by decide)⟩
  · obtain ⟨es', c, hm⟩ := h.idx.notCells
    exact ⟨h.idx.lt, h.ge.2, fun ⟨C, fr, q⟩ => by rw [hm] at q; cases q⟩
theorem isN_lt {w : World} {k : Nat} (h : isN w k) : k < w.heap.size := by
  obtain ⟨C, fr, q⟩ := h
  exact (Array.getElem?_eq_some_iff.1 q).1
theorem SegAt.below {w w' : World} {B s mb : Nat} {es : List Ent} {ev : Value} (h : SegAt w B s es ev mb) (hb : Below w.heap.size w w') : SegAt w' B s es ev mb :=
  h.same fun g hg => hb.block g (by
    rcases hg with hg | hg
    · exact (h.ownLt hg).1
    · exact isN_lt hg)
end Go.Proofs.YtkncboinfcnklaaGreatDoor

namespace Go.Proofs.YtkncboinfcnklaaGreatDoor
open Go.RowKit Go.Deep Go.Proofs.YtkncboinfcnklaaGreatDoor.Mth

theorem eC_atG : ∀ {l : List Ent} {j : Nat}, j < l.length → (l.flatMap eC)[j * 3]? = some (.int .i64 (l.getD j e0).seq) ∧ (l.flatMap eC)[j * 3 + 1]? = some (.int .i64 (l.getD j e0).time) ∧ (l.flatMap eC)[j * 3 + 2]? = some (.string (l.getD j e0).text)
  | f :: l, 0, _ => by simp [eC]
  | f :: l, j + 1, h => by
    obtain ⟨a, b, c⟩ := eC_atG (l := l) (j := j) (by simpa using h)
    rw [List.flatMap_cons]
    refine ⟨?_, ?_, ?_⟩
    · rw [List.getElem?_append_right (by simp [eC]; omega)]; simpa [eC, show (j + 1) * 3 - 3 = j * 3 by omega] using a
    · rw [List.getElem?_append_right (by simp [eC]; omega)]; simpa [eC, show (j + 1) * 3 + 1 - 3 = j * 3 + 1 by omega] using b
    · rw [List.getElem?_append_right (by simp [eC]; omega)]; simpa [eC, show (j + 1) * 3 + 2 - 3 = j * 3 + 2 by omega] using c
theorem own_en {w : World} {B : Nat} {e : TypeId} {g n c : Nat} {es : List Ent} (h : w.ownsRow B e 3 (.slice (some ⟨g, 0, none⟩) n c) n (es.flatMap eC)) {k : Nat} (hn : es.length = n) (hk : k < n) : w.cell? ⟨g, k * 3, none⟩ = some (.int .i64 (es.getD k e0).seq) ∧ w.cell? ⟨g, k * 3 + 1, none⟩ = some (.int .i64 (es.getD k e0).time) ∧ w.cell? ⟨g, k * 3 + 2, none⟩ = some (.string (es.getD k e0).text) := by
  obtain ⟨h0, h1, h2⟩ := eC_atG (l := es) (j := k) (by omega)
  exact ⟨own_get h h0, own_get h h1, own_get h h2⟩

/-! ### which entries are found -/
theorem range_map {α : Type} (es : List α) (z : α) (q : α → Bool) : ((List.range es.length).filter (fun i => q (es.getD i z))).map (fun i => es.getD i z) = es.filter q := by
  have h : (List.range es.length).map (fun i => es.getD i z) = es := by
    apply List.ext_getElem
    · simp
    · intro i h1 h2
      simp at h1
      simp [List.getD, h1]
  have h2 : ((List.range es.length).filter (q ∘ (fun i => es.getD i z))).map (fun i => es.getD i z) = ((List.range es.length).map (fun i => es.getD i z)).filter q := by rw [List.filter_map]
  rw [h] at h2
  exact h2
/-- The entries that have a word and a time from lo to hi. -/
def fnd (es : List Ent) (x : ByteArray) (lo hi : Int) : List Ent := es.filter (fun e => memD x (wd e.text) && (decide (lo ≤ e.time) && decide (e.time ≤ hi)))
/-- Times do not fall. -/
def Tms (es : List Ent) : Prop := ∀ i j, i ≤ j → j < es.length → (es.getD i e0).time ≤ (es.getD j e0).time
theorem fnd_eq {es : List Ent} {x : ByteArray} {lo hi : Int} {a b : Nat} (_ha : a ≤ es.length) (_hb : b ≤ es.length)
    (h1 : ∀ i, i < a → decide (lo ≤ (es.getD i e0).time) = false) (h2 : ∀ i, a ≤ i → i < es.length → decide (lo ≤ (es.getD i e0).time) = true)
    (h3 : ∀ i, i < b → decide (hi < (es.getD i e0).time) = false) (h4 : ∀ i, b ≤ i → i < es.length → decide (hi < (es.getD i e0).time) = true) :
    (btw (fun a b : Int => a < b) (a : Int) ((b : Int) - 1) (hasUp es x es.length)).map (fun i => es.getD i.toNat e0) = fnd es x lo hi := by
  unfold btw hasUp fnd
  rw [List.filter_map, List.map_map, List.filter_filter, ← range_map es e0]
  rw [show ((fun i : Int => es.getD i.toNat e0) ∘ fun i : Nat => (i : Int)) = fun i : Nat => es.getD i e0 from by funext i; simp]
  congr 1
  apply List.filter_congr
  intro i hmem
  have hil : i < es.length := by simpa using hmem
  simp only [Function.comp]
  have c1 : (!decide ((i : Int) < (a : Int))) = decide (lo ≤ (es.getD i e0).time) := by
    by_cases q : i < a
    · rw [h1 i q, decide_eq_true (by omega)]; rfl
    · rw [h2 i (by omega) hil, decide_eq_false (by omega)]; rfl
  have c2 : (!decide ((b : Int) - 1 < (i : Int))) = decide ((es.getD i e0).time ≤ hi) := by
    by_cases q : i < b
    · have := h3 i q
      rw [decide_eq_false (by omega), decide_eq_true]; · rfl
      · have := of_decide_eq_false this; omega
    · have := of_decide_eq_true (h4 i (by omega) hil)
      rw [decide_eq_true (by omega), decide_eq_false (by omega)]; rfl
  rw [c1, c2]
  cases memD x (wd (es.getD i e0).text) <;> cases decide (lo ≤ (es.getD i e0).time) <;> cases decide ((es.getD i e0).time ≤ hi) <;> rfl

set_option maxRecDepth 100000 in
set_option maxHeartbeats 1000000 in
theorem find1_any {w : World} {s g n c x y i : Nat} {lo t : Int} {_u : Value} (hx : w.cell? ⟨x, 0, none⟩ = some (.pointer (some ⟨s, 0, none⟩))) (hy : w.cell? ⟨y, 0, none⟩ = some (.int .i64 lo)) (hs : w.cell? ⟨s, 0, none⟩ = some (.slice (some ⟨g, 0, none⟩) n c)) (ht : w.cell? ⟨g, i * 3 + 1, none⟩ = some (.int .i64 t)) (hi : i < n) (_hn : n ≤ 4194304) (_hc : n ≤ c) (_hm : c ≤ maxLen) :
    Calls Tryz.prog 150 #[.int .i64 (i : Int), .pointer (some ⟨x, 0, none⟩), .pointer (some ⟨y, 0, none⟩)] w fun e w' => e = .returned (.bool (decide (lo ≤ t))) ∧ ∃ m', w' = w.drewN m' := by
  unfold maxLen at _hm
  go_enter Tryz.func150, Tryz.ntmps150
  go_wp2_with fail
  go_quiet (fail)
  go_wp2
  go_ret
  exact ⟨by first | rfl | simp, _, rfl⟩

set_option maxRecDepth 100000 in
set_option maxHeartbeats 1000000 in
theorem find2_any {w : World} {s g n c x y i : Nat} {lo t : Int} {_u : Value} (hx : w.cell? ⟨x, 0, none⟩ = some (.pointer (some ⟨s, 0, none⟩))) (hy : w.cell? ⟨y, 0, none⟩ = some (.int .i64 lo)) (hs : w.cell? ⟨s, 0, none⟩ = some (.slice (some ⟨g, 0, none⟩) n c)) (ht : w.cell? ⟨g, i * 3 + 1, none⟩ = some (.int .i64 t)) (hi : i < n) (_hn : n ≤ 4194304) (_hc : n ≤ c) (_hm : c ≤ maxLen) :
    Calls Tryz.prog 151 #[.int .i64 (i : Int), .pointer (some ⟨x, 0, none⟩), .pointer (some ⟨y, 0, none⟩)] w fun e w' => e = .returned (.bool (decide (lo < t))) ∧ ∃ m', w' = w.drewN m' := by
  unfold maxLen at _hm
  go_enter Tryz.func151, Tryz.ntmps151
  go_wp2_with fail
  go_quiet (fail)
  go_wp2
  go_ret
  exact ⟨by first | rfl | simp, _, rfl⟩

theorem CurE.pre {w wA w1 : World} {v : Value} {l : List Ent} (hb : Below w.heap.size w wA) (h : CurE wA w1 v l) : CurE w w1 v l := ⟨hb.trans (h.1.mono hb.size), own_base h.2 hb.size⟩

/-- Three boxes. -/
theorem three_boxes (w : World) (p q r : Value) (t1 t2 t3 : TypeId) : ∃ W, W = ((w.alloc (Obj.cells #[p] t1)).alloc (Obj.cells #[q] t2)).alloc (Obj.cells #[r] t3) ∧ Below w.heap.size w W ∧ W.cell? ⟨w.heap.size, 0, none⟩ = some p ∧ W.cell? ⟨w.heap.size + 1, 0, none⟩ = some q ∧ W.cell? ⟨w.heap.size + 2, 0, none⟩ = some r ∧ W.heap.size = w.heap.size + 3 := by
  refine ⟨_, rfl, ?_, ?_, ?_, ?_, ?_⟩
  · have b1 := below_allocG w (Obj.cells #[p] t1)
    have b2 := below_allocG (w.alloc (Obj.cells #[p] t1)) (Obj.cells #[q] t2)
    have b3 := below_allocG ((w.alloc (Obj.cells #[p] t1)).alloc (Obj.cells #[q] t2)) (Obj.cells #[r] t3)
    exact (b1.trans (b2.mono b1.size)).trans (b3.mono (b1.trans (b2.mono b1.size)).size)
  · exact (cell_of (j := 0) (old_blk _ (old_blk _ (new_blk w #[p] t1))) rfl).1
  · have := new_blk (w.alloc (Obj.cells #[p] t1)) #[q] t2
    rw [World.size_alloc] at this
    exact (cell_of (j := 0) (old_blk _ this) rfl).1
  · have := new_blk ((w.alloc (Obj.cells #[p] t1)).alloc (Obj.cells #[q] t2)) #[r] t3
    rw [World.size_alloc, World.size_alloc] at this
    exact (cell_of (j := 0) this rfl).1
  · simp

set_option maxRecDepth 100000 in
set_option maxHeartbeats 4000000 in
theorem find_seg {w : World} {B s mb : Nat} {es : List Ent} {ev : Value} (h : SegAt w B s es ev mb) (x : ByteArray) (hx : x.size ≤ maxLen) (lo hi : Int) (hl : es.length ≤ 1048576) (ht : Tms es) :
    Calls Tryz.prog 92 #[.pointer (some ⟨s, 0, none⟩), .string x, .int .i64 lo, .int .i64 hi] w fun e w' => ∃ v, e = .returned v ∧ CurE w w' v (fnd es x lo hi) := by
  obtain ⟨i0, hi0, hz0, hz1, hz2⟩ := info_parts Tryz.info66
  obtain ⟨a, c, rfl, hc, hm⟩ := own_slice h.own
  obtain ⟨W, hW, hb, k1, k2, k3, hsz⟩ := three_boxes w (.pointer (some ⟨s, 0, none⟩)) (.int .i64 lo) (.int .i64 hi) 128 3 3
  have hS := h.below hb
  obtain ⟨q0, _⟩ := cell_of (j := 0) (u := .slice a es.length c) hS.blk rfl
  obtain ⟨q1, _⟩ := cell_of (j := 1) (u := .map (some mb)) hS.blk rfl
  have C1 : Hid (Calls Tryz.prog 149 #[.int .i64 (es.length : Int), .func (.func 150) #[] #[.pointer (some ⟨w.heap.size, 0, none⟩), .pointer (some ⟨w.heap.size + 1, 0, none⟩)]] W (Srch W es.length (fun i => decide (lo ≤ (es.getD i e0).time)))) := by
    refine search_find1 es.length w.heap.size (w.heap.size + 1) _ W (by omega) (fun i j hij hj hp => decide_eq_true (Int.le_trans (of_decide_eq_true hp) (ht i j hij hj))) (fun i m hi' => ?_)
    obtain ⟨g, rfl⟩ := own_some hS.own (by omega)
    refine (find1_any (w := W.drewN m) (s := s) (g := g) (n := es.length) (c := c) (_u := .slice none 0 0) k1 k2 q0 (own_en hS.own rfl hi').2.1 hi' (by omega) hc hm).mono ?_
    rintro e w' ⟨rfl, m', rfl⟩
    exact ⟨rfl, m + m', by simp⟩
  have C2 : Hid (∀ m, Calls Tryz.prog 149 #[.int .i64 (es.length : Int), .func (.func 151) #[] #[.pointer (some ⟨w.heap.size, 0, none⟩), .pointer (some ⟨w.heap.size + 2, 0, none⟩)]] (W.drewN m) (Srch (W.drewN m) es.length (fun i => decide (hi < (es.getD i e0).time)))) := by
    intro m0
    refine search_find2 es.length w.heap.size (w.heap.size + 2) _ (W.drewN m0) (by omega) (fun i j hij hj hp => decide_eq_true (Int.lt_of_lt_of_le (of_decide_eq_true hp) (ht i j hij hj))) (fun i m hi' => ?_)
    obtain ⟨g, rfl⟩ := own_some hS.own (by omega)
    refine (find2_any (w := (W.drewN m0).drewN m) (s := s) (g := g) (n := es.length) (c := c) (_u := .slice none 0 0) k1 k3 q0 (own_en hS.own rfl hi').2.1 hi' (by omega) hc hm).mono ?_
    rintro e w' ⟨rfl, m', rfl⟩
    exact ⟨rfl, m + m', by simp [Nat.add_assoc]⟩
  unfold maxLen at hm
  have HS := hide hS
  have HB := hide hb
  have HSZ := hide hsz
  clear hS hb h ht hsz
  generalize hn : es.length = n at *
  have HN := hide hn
  clear hn
  have q0' := q0
  rw [hW] at q0'
  have HW := hide hW
  clear hW
  go_enter Tryz.func92, Tryz.ntmps92
  go_wp2_with fail
  rw [← HW.out]
  refine C1.out.mono ?_
  rintro e w1 ⟨fa, rfl, hfa, hfa1, hfa2, m1, rfl⟩
  have HA := hide (⟨hfa1, hfa2⟩ : (∀ i, i < fa → decide (lo ≤ (es.getD i e0).time) = false) ∧ ∀ i, fa ≤ i → i < n → decide (lo ≤ (es.getD i e0).time) = true)
  clear hfa1 hfa2 C1 q0'
  go_wp2_with fail
  refine (C2.out _).mono ?_
  rintro e w1 ⟨fb, rfl, hfb, hfb1, hfb2, m2, rfl⟩
  have HB2 := hide (⟨hfb1, hfb2⟩ : (∀ i, i < fb → decide (hi < (es.getD i e0).time) = false) ∧ ∀ i, fb ≤ i → i < n → decide (hi < (es.getD i e0).time) = true)
  clear hfb1 hfb2 C2
  rw [World.drewN_drewN]
  obtain ⟨W2, hW2⟩ : ∃ W2, W2 = W.drewN (m1 + m2) := ⟨_, rfl⟩
  have HB3 : Hid (Below w.heap.size w W2) := by rw [hW2]; exact HB.out.trans ((drewG W _).mono HB.out.size)
  have hS2 : SegAt W2 B s es (.slice a n c) mb := by rw [hW2]; exact HS.out.below (drewG W _)
  have k12 : W2.cell? ⟨w.heap.size, 0, none⟩ = some (.pointer (some ⟨s, 0, none⟩)) := by rw [hW2]; exact k1
  rw [← hW2]
  obtain ⟨q02, _⟩ := cell_of (j := 0) (u := .slice a n c) hS2.blk rfl
  obtain ⟨q12, _⟩ := cell_of (j := 1) (u := .map (some mb)) hS2.blk rfl
  clear hW2 k1 k2 k3 q0 q1 HB HS HW HSZ
  obtain ⟨T, hlook, hT, hup, hlst⟩ := hS2.idx.look x hx
  obtain ⟨u, hu⟩ := WI.ptr_pointer T
  rw [hu] at hlook
  have HSET : Hid (WI.SetAt (W2.alloc (Obj.cells #[.pointer u] 208)) W2.heap.size T) := by
    obtain ⟨d1, d2⟩ := cell_of (j := 0) (u := .pointer u) (new_blk W2 #[.pointer u] 208) rfl
    exact ⟨by rw [hu]; exact d1, d2, InT.below (below_allocG W2 _) hT, hup⟩
  have hlen : (lst T).length ≤ n := by rw [hlst]; unfold hasUp; rw [List.length_map]; exact Nat.le_trans (List.length_filter_le _ _) (by simp [HN.out])
  have CB := hide (WI.between_any W2.heap.size T (fa : Int) ((fb : Int) - 1) _ HSET.out (by omega))
  rw [hlst] at CB
  have HS2 := hide hS2
  have HUP := hide hup
  clear hS2 hT hup hlst hlen HUP HSET
  go_wp2_with (first | (go_at_call 152; refine CB.out.mono ?_; rintro e w4 ⟨v4, rfl, hc4⟩; obtain ⟨a4, c4, rfl, hc4c, hc4m⟩ := own_slice hc4.2; have HC4 := hide hc4; clear hc4))
  have HLN : Hid (∀ y ∈ btw (fun a b : Int => a < b) (fa : Int) ((fb : Int) - 1) (hasUp es x es.length), ∃ j : Nat, j < n ∧ y = (j : Int)) := by
    intro y hy
    have := (List.mem_filter.1 hy).1
    unfold hasUp at this
    obtain ⟨j, hj, rfl⟩ := List.mem_map.1 this
    have := (List.mem_filter.1 hj).1
    exact ⟨j, by rw [← HN.out]; simpa using this, rfl⟩
  have HEQ := hide (fnd_eq (es := es) (x := x) (lo := lo) (hi := hi) (a := fa) (b := fb) (by rw [HN.out]; exact hfa) (by rw [HN.out]; exact hfb) HA.out.1 (by rw [HN.out]; exact HA.out.2) HB2.out.1 (by rw [HN.out]; exact HB2.out.2))
  have HLL : Hid ((btw (fun a b : Int => a < b) (fa : Int) ((fb : Int) - 1) (hasUp es x es.length)).length ≤ n) := by
    refine Nat.le_trans (List.length_filter_le _ _) ?_
    unfold hasUp
    rw [List.length_map]
    exact Nat.le_trans (List.length_filter_le _ _) (by simp [HN.out])
  have HS4 := hide ((HS2.out.below (below_allocG W2 (Obj.cells #[.pointer u] 208))).below HC4.out.1)
  have HB4 : Hid (Below w.heap.size w w4) := by
    have b1 := HB3.out.trans ((below_allocG W2 (Obj.cells #[.pointer u] 208)).mono HB3.out.size)
    exact b1.trans (HC4.out.1.mono b1.size)
  have k14 : w4.cell? ⟨w.heap.size, 0, none⟩ = some (.pointer (some ⟨s, 0, none⟩)) := by
    have b1 := (below_allocG W2 (Obj.cells #[.pointer u] 208)).cell (p := ⟨w.heap.size, 0, none⟩) (World.block_lt_of_cell? _ _ k12)
    have e1 := b1.trans k12
    exact (HC4.out.1.cell (p := ⟨w.heap.size, 0, none⟩) (World.block_lt_of_cell? _ _ e1)).trans e1
  clear HA HB2 CB hlook k12 q02 q12 HB3
  have HOW := hide HC4.out.2
  clear HC4 HS2
  generalize btw (fun a b : Int => a < b) (fa : Int) ((fb : Int) - 1) (hasUp es x es.length) = L at *
  have hLl := HLL.out
  generalize hln : L.length = ln at *
  have HLEN := hide hln
  clear hln
  go_loopw [12, 40] (fun v i wr => ∃ k : Nat, k ≤ ln ∧ i = .int .i64 k ∧ CurE w4 wr v ((L.take k).map (fun i => es.getD i.toNat e0))) (fun _ i _ => ln - (intOf i).toNat)
  case atStart => exact ⟨0, Nat.zero_le _, rfl, Below.refl _ _, World.ownsRow_nil _ _ _ _⟩
  case round =>
    obtain ⟨k, hk, rfl, hcur⟩ := hrel
    have HC := hide hcur
    clear hcur
    by_cases hlt : k < ln
    · obtain ⟨g4, rfl⟩ := own_some HOW.out (by omega)
      obtain ⟨j, hj, hjy⟩ := HLN.out (L.getD k 0) (getDmem (by rw [HLEN.out]; exact hlt))
      have d4 : wr.cell? ⟨g4, k, none⟩ = some (.int .i64 (j : Int)) := by
        have e := own_get HOW.out (j := k) (u := .int .i64 (j : Int)) (by
          rw [List.getElem?_map, List.getElem?_eq_getElem (by rw [HLEN.out]; exact hlt)]
          have : L[k]'(by rw [HLEN.out]; exact hlt) = (j : Int) := by rw [← hjy]; simp [List.getD, HLEN.out, hlt]
          rw [this]; rfl)
        exact (HC.out.1.cell (p := ⟨g4, k, none⟩) (World.block_lt_of_cell? _ _ e)).trans e
      have hSr := HS4.out.below HC.out.1
      have ho := hSr.own
      rw [HN.out] at ho
      obtain ⟨g, rfl⟩ := own_some ho (by omega)
      obtain ⟨q0, _⟩ := cell_of (j := 0) (u := .slice (some ⟨g, 0, none⟩) n c) hSr.blk rfl
      obtain ⟨e0', e1, e2⟩ := own_en ho HN.out hj
      have kr := (HC.out.1.cell (p := ⟨w.heap.size, 0, none⟩) (World.block_lt_of_cell? _ _ k14)).trans k14
      have HTK : Hid ((L.take (k + 1)).map (fun i => es.getD i.toNat e0) = (L.take k).map (fun i => es.getD i.toNat e0) ++ [es.getD j e0]) := by
        show _ = _
        rw [take_snoc (by rw [HLEN.out]; exact hlt) 0, List.map_append, hjy]
        simp
      have hml : ((L.take k).map (fun i => es.getD i.toNat e0)).length = k := by rw [List.length_map, List.length_take, HLEN.out]; omega
      clear hSr ho hjy
      generalize (L.take k).map (fun i => es.getD i.toNat e0) = m at *
      obtain ⟨f, hf⟩ : ∃ f, f = es.getD j e0 := ⟨_, rfl⟩
      rw [← hf] at e0' e1 e2
      have HF := hide hf
      clear hf
      obtain ⟨fs, ft, fx⟩ := f
      simp only at e0' e1 e2
      have hsz4 := HC.out.1.size
      go_wp2_with (first | (at_builtin; refine wpList_append_own _ rfl _ _ 57 rfl w4.heap.size 66 i0 (.agg #[.int .i64 0, .int .i64 0, .string ByteArray.empty]) 3 32 Tryz.underlying57 hi0 hz0 hz1 hz2 rfl (by decide) _ _ _ rfl (HC.out.2.alloc _) ⟨wr.heap.size, 0, none⟩ 1 1 [.int .i64 fs, .int .i64 ft, .string fx] rfl rfl (cell_three_new _ _ _ _ _) (by intro u hu; simp at hu; rcases hu with rfl | rfl | rfl <;> rfl) (by unfold maxLen; omega) (by omega) (by simp; omega) ?_; intro v5 w5 hown5 hgrow5 _; have HC5 := hide (curE_append (e := ⟨fs, ft, fx⟩) HC.out hown5 hgrow5); clear hown5 hgrow5))
      go_roundw
      case rel => exact ⟨k + 1, by omega, by go_num, by rw [HTK.out, ← HF.out]; exact HC5.out⟩
      case measure => simp [intOf]; omega
    · have hke : k = ln := by omega
      subst hke
      have HF : Hid (L.take k = L) := List.take_of_length_le (by rw [HLEN.out]; exact Nat.le_refl _)
      go_wp2
      go_ret
      exact ⟨_, rfl, CurE.pre HB4.out (by have := HC.out; rwa [HF.out, HEQ.out] at this)⟩
end Go.Proofs.YtkncboinfcnklaaGreatDoor
