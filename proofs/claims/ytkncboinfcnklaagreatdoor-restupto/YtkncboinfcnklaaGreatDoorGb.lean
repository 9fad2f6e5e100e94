import Derived.Test.YtkncboinfcnklaaGreatDoorGa
import Derived.Lib.SlicesDelete
import Derived.Lib.SliceRun
import Derived.Deep.RegionLaw
import Derived.Deep.MidRow
import Derived.Test.YtkncboinfcnklaaGreatDoorDa
import Derived.Test.YtkncboinfcnklaaGreatDoorRa
import Derived.Test.YtkncboinfcnklaaGreatDoorWa
import Derived.Maps.OwnSet
import Derived.Maps.OwnOps
namespace Go.Proofs.YtkncboinfcnklaaGreatDoor
open Go.RowKit Go.Deep Go.Proofs.YtkncboinfcnklaaGreatDoor.Mth

theorem Tryz.info137 : (Tryz.prog.info? 137).map (fun i => (i.zero, i.size, i.bytes)) = some (some (.agg #[.int .i64 0, .int .i64 0]), 2, 16) := by kernel_rfl
theorem Tryz.info128 : (Tryz.prog.info? 128).map (fun i => (i.zero, i.size, i.bytes)) = some (some (.pointer none), 1, 8) := by kernel_rfl

theorem setCells_blk (g : Nat) (t : TypeId) (fr : Nat × Nat) : ∀ (vs : List Value) (o : Nat) (w : World) (cur : Array Value), w.heap[g]? = some (Obj.cells cur t fr) → (w.setCells g o vs).heap[g]? = some (Obj.cells (Lib.lay cur o vs) t fr)
  | [], _, _, _, h => h
  | v :: r, o, w, cur, h => by
    rw [World.setCells, Lib.lay]
    exact setCells_blk g t fr r (o + 1) _ _ (by simp [World.setCell, Array.getElem?_modify, h])
theorem setCells_size (g : Nat) : ∀ (vs : List Value) (o : Nat) (w : World), (w.setCells g o vs).heap.size = w.heap.size
  | [], _, _ => rfl
  | v :: r, o, w => by
    rw [World.setCells, setCells_size g r (o + 1)]
    simp
theorem setCells_tape (g : Nat) : ∀ (vs : List Value) (o : Nat) (w : World), (w.setCells g o vs).tape = w.tape
  | [], _, _ => rfl
  | v :: r, o, w => by
    rw [World.setCells, setCells_tape g r (o + 1)]
    rfl
theorem setCells_os (g : Nat) : ∀ (vs : List Value) (o : Nat) (w : World), (w.setCells g o vs).os = w.os
  | [], _, _ => rfl
  | v :: r, o, w => by
    rw [World.setCells, setCells_os g r (o + 1)]
    rfl
theorem setCells_output (g : Nat) : ∀ (vs : List Value) (o : Nat) (w : World), (w.setCells g o vs).output = w.output
  | [], _, _ => rfl
  | v :: r, o, w => by
    rw [World.setCells, setCells_output g r (o + 1)]
    rfl
theorem setCells_other (g k : Nat) (hk : k ≠ g) : ∀ (vs : List Value) (o : Nat) (w : World), (w.setCells g o vs).heap[k]? = w.heap[k]?
  | [], _, _ => rfl
  | v :: r, o, w => by
    rw [World.setCells, setCells_other g k hk r (o + 1)]
    exact Below.heap_setCell w ⟨g, o, none⟩ v k hk
theorem setCells_grown (w : World) (g o : Nat) (vs : List Value) : w.grownBy (w.setCells g o vs) (some g) :=
  ⟨setCells_os _ _ _ _, setCells_tape _ _ _ _, setCells_output _ _ _ _, by rw [setCells_size]; exact Nat.le_refl _, fun k _ hne => setCells_other g k (fun q => hne (by rw [q])) _ _ _⟩
theorem grownG_trans {w w1 w2 : World} {g : Nat} (h1 : w.grownBy w1 (some g)) (h2 : w1.grownBy w2 (some g)) : w.grownBy w2 (some g) :=
  ⟨h2.os.trans h1.os, h2.tape.trans h1.tape, h2.output.trans h1.output, Nat.le_trans h1.size h2.size, fun k hk hne => (h2.block k (Nat.lt_of_lt_of_le hk h1.size) hne).trans (h1.block k hk hne)⟩

theorem run_clear_any {P : Program} (w : World) (t e ty : TypeId) (z : Value) (ht : P.underlying t = some (.slice e)) (hv : ∀ w, (zeroValue e).run P w = .ok z w) (b o n c : Nat) (hn : 0 < n) (zs : List Value) (hz : (Builtin.zeroCells z.cells n).toList = zs) (h1 : ∀ u ∈ zs, u.oneCell' = true)
    (hc : ∀ j, j < zs.length → (w.cell? ⟨b, o + j, none⟩).isSome = true) (hf : ∀ j, j < zs.length → w.frozen? ⟨b, o + j, none⟩ = false) :
    (Builtin.clear_ #[t] ty #[.slice (some ⟨b, o, none⟩) n c]).run P w = .ok (.tuple #[]) (w.setCells b o zs) := by
  have hst := run_storeCells_cells (P := P) b o zs 0 w (by simpa using hc) (by simpa using hf) h1
  simp only [Nat.add_zero] at hst
  obtain ⟨m, rfl⟩ : ∃ m, n = m + 1 := ⟨n - 1, by omega⟩
  simp [Builtin.clear_, run_underlying ht, hv, hz, hst]

/-- What stands in a row behind the cells from i to j are taken out of its first n. -/
theorem lay_cut {cur : Array Value} {n i j : Nat} {zs : List Value} (hn : n ≤ cur.size) (hij : i ≤ j) (hj : j ≤ n) (hz : zs.length = j - i) :
    (Lib.lay (Lib.lay cur i ((cur.toList.take n).drop j)) (n - (j - i)) zs).toList.take (n - (j - i)) = (cur.toList.take n).take i ++ (cur.toList.take n).drop j := by
  apply List.ext_getElem?
  intro k
  have hl : ((cur.toList.take n).drop j).length = n - j := by simp; omega
  rw [List.getElem?_take]
  by_cases hk : k < n - (j - i)
  · rw [if_pos hk, Array.getElem?_toList, Lib.lay_get? _ _ _ _ (by rw [Lib.lay_size]; omega), if_neg (by omega), Lib.lay_get? _ _ _ _ (by omega)]
    by_cases hki : k < i
    · rw [if_neg (by omega), List.getElem?_append_left (by simp; omega)]
      simp [hki, show k < n by omega]
    · rw [if_pos (by omega), List.getElem?_append_right (by simp; omega)]
      congr 1
      simp; omega
  · rw [if_neg hk, List.getElem?_eq_none]
    simp; omega

/-- What is left of a row of one's own behind Delete. -/
theorem own_cut {w W1 W2 : World} {B : Nat} {e : TypeId} {sz g n cap i j : Nat} {xs zs : List Value} (h : w.ownsRow B e sz (.slice (some ⟨g, 0, none⟩) n cap) n xs) (hij : i ≤ j) (hj : j ≤ n) (hz : zs.length = (j - i) * sz)
    (h1 : W1 = w.setCells g (i * sz) (xs.drop (j * sz))) (h2 : W2 = W1.setCells g ((n - (j - i)) * sz) zs) :
    W2.ownsRow B e sz (.slice (some ⟨g, 0, none⟩) (n - (j - i)) cap) (n - (j - i)) (xs.take (i * sz) ++ xs.drop (j * sz)) ∧ w.grownBy W2 (some g) := by
  obtain ⟨hl, ⟨h0, _⟩ | ⟨g', cap', cur, hv, hB, hb, hc, hm, hs, hx⟩⟩ := h
  · cases h0
  injection hv with hv1 hv2 hv3
  injection hv1 with hv1
  injection hv1 with hv1
  subst hv1 hv3
  have hmul : n * sz ≤ cap * sz := Nat.mul_le_mul_right _ hc
  have hj2 : j * sz ≤ n * sz := Nat.mul_le_mul_right _ hj
  have hi2 : i * sz ≤ j * sz := Nat.mul_le_mul_right _ hij
  have hd : (n - (j - i)) * sz = n * sz - (j * sz - i * sz) := by rw [Nat.sub_mul, Nat.sub_mul]
  have hz2 : zs.length = j * sz - i * sz := by rw [hz, Nat.sub_mul]
  subst h1 h2 hx
  have hcut := lay_cut (cur := cur) (n := n * sz) (i := i * sz) (j := j * sz) (zs := zs) (by omega) hi2 hj2 hz2
  rw [← hd] at hcut
  refine ⟨⟨?_, Or.inr ⟨g, cap, _, rfl, hB, setCells_blk g e (0, 0) _ _ _ _ (setCells_blk g e (0, 0) _ _ _ _ hb), by omega, hm, by rw [Lib.lay_size, Lib.lay_size]; exact hs, ?_⟩⟩, grownG_trans (setCells_grown _ _ _ _) (setCells_grown _ _ _ _)⟩
  · simp only [List.length_append, List.length_take, List.length_drop, Array.length_toList]
    rw [hd]
    omega
  · exact hcut
theorem own_there {w : World} {B : Nat} {e : TypeId} {sz g n cap : Nat} {xs : List Value} (h : w.ownsRow B e sz (.slice (some ⟨g, 0, none⟩) n cap) n xs) {j : Nat} (hj : j < cap * sz) : (w.cell? ⟨g, j, none⟩).isSome = true ∧ w.frozen? ⟨g, j, none⟩ = false := by
  obtain ⟨hl, ⟨h0, _⟩ | ⟨g', cap', cur, hv, hB, hb, hc, hm, hs, hx⟩⟩ := h
  · cases h0
  injection hv with hv1 hv2 hv3
  injection hv1 with hv1
  injection hv1 with hv1
  subst hv1 hv3
  have : j < cur.size := by omega
  constructor
  · simp [World.cell?, hb, this]
  · simp [World.frozen?, hb]
theorem own_get {w : World} {B : Nat} {e : TypeId} {sz g n cap : Nat} {xs : List Value} (h : w.ownsRow B e sz (.slice (some ⟨g, 0, none⟩) n cap) n xs) {j : Nat} {u : Value} (hu : xs[j]? = some u) : w.cell? ⟨g, j, none⟩ = some u := by
  have := h.cells (g := g) rfl j u hu
  have e : (⟨g, 0, none⟩ : Addr).add j = ⟨g, j, none⟩ := by unfold Addr.add; split <;> simp_all
  rwa [e] at this

theorem zero_delTask {n : Nat} (u : Value) (h : u ∈ (Builtin.zeroCells (Value.agg #[.int .i64 0, .int .i64 0]).cells n).toList) : u.oneCell' = true := by
  simp [Builtin.zeroCells, Value.cells] at h
  obtain ⟨k, _, rfl⟩ := h
  rcases Nat.mod_two_eq_zero_or_one k with q | q <;> simp [q, Value.oneCell']
theorem zero_delSeg {n : Nat} (u : Value) (h : u ∈ (Builtin.zeroCells (Value.pointer none).cells n).toList) : u.oneCell' = true := by
  simp [Builtin.zeroCells, Value.cells] at h
  obtain ⟨k, _, rfl⟩ := h
  simp [Nat.mod_one, Value.oneCell']

set_option maxRecDepth 100000 in
set_option maxHeartbeats 4000000 in
theorem delTask_any {w : World} {B g n cap i j : Nat} {xs : List Value} (h : w.ownsRow B 137 2 (.slice (some ⟨g, 0, none⟩) n cap) n xs) (h1 : ∀ u ∈ xs, u.oneCell' = true) (hij : i < j) (hj : j ≤ n) :
    Calls Tryz.prog 307 #[.slice (some ⟨g, 0, none⟩) n cap, .int .i64 (i : Int), .int .i64 (j : Int)] w fun e w' => e = .returned (.slice (some ⟨g, 0, none⟩) (n - (j - i)) cap) ∧ w'.ownsRow B 137 2 (.slice (some ⟨g, 0, none⟩) (n - (j - i)) cap) (n - (j - i)) (xs.take (i * 2) ++ xs.drop (j * 2)) ∧ w.grownBy w' (some g) := by
  obtain ⟨i0, hi0, hz0, hz1, hz2⟩ := info_parts Tryz.info137
  have hl : xs.length = n * 2 := h.1
  obtain ⟨hc, hm⟩ : n ≤ cap ∧ cap ≤ maxLen := by
    rcases h.2 with ⟨h0, _⟩ | ⟨g', cap', cur, hv, hB, hb, hc, hm, hs, hx⟩
    · cases h0
    · injection hv with hv1 hv2 hv3
      subst hv3
      exact ⟨hc, hm⟩
  unfold maxLen at hm
  obtain ⟨news, hnews⟩ : ∃ news, news = xs.drop (j * 2) := ⟨_, rfl⟩
  have hlen : news.length = (n - j) * 2 := by rw [hnews, List.length_drop, hl]; omega
  obtain ⟨A, hA, hsrc⟩ : ∃ A : Addr, (if cap = j then some (⟨g, 0, none⟩ : Addr) else some ⟨g, j * 2, none⟩) = some A ∧ Hid (∀ t u, news[t]? = some u → w.drew.cell? (A.add t) = some u) := by
    by_cases hcj : cap = j
    · refine ⟨⟨g, 0, none⟩, by simp [hcj], fun t u hu => ?_⟩
      have h0 : news.length = 0 := by rw [hlen]; omega
      rw [List.length_eq_zero_iff.1 h0] at hu
      simp at hu
    · refine ⟨⟨g, j * 2, none⟩, by simp [hcj], fun t u hu => ?_⟩
      rw [Addr.add_lit]
      rw [hnews, List.getElem?_drop] at hu
      exact own_get h (by simpa using hu)
  have s1 : Hid (news.length = (n - j) * 2) := hlen
  have s2 : Hid (∀ u ∈ news, u.oneCell' = true) := fun u hu => h1 u (by rw [hnews] at hu; exact List.mem_of_mem_drop hu)
  have s3 : Hid (∀ t, t < news.length → (w.drew.cell? ⟨g, 0 + i * 2 + t, none⟩).isSome = true ∧ w.drew.frozen? ⟨g, 0 + i * 2 + t, none⟩ = false) := fun t ht => by
    rw [Nat.zero_add]
    exact own_there h (j := i * 2 + t) (by rw [hlen] at ht; omega)
  obtain ⟨W1, hW1⟩ : ∃ W1, W1 = w.drew.setCells g (i * 2) news := ⟨_, rfl⟩
  have hW : Hid (W1 = w.drew.setCells g (0 + i * 2) news) := by rw [Nat.zero_add]; exact hW1
  obtain ⟨zs, hzs⟩ : ∃ zs, zs = (Builtin.zeroCells (Value.agg #[.int .i64 0, .int .i64 0]).cells (j - i)).toList := ⟨_, rfl⟩
  have hzl : zs.length = (j - i) * 2 := by rw [hzs]; simp [Builtin.zeroCells, Value.cells]
  have hz1c : ∀ u ∈ zs, u.oneCell' = true := by
    intro u hu
    rw [hzs] at hu
    exact zero_delTask u hu
  have X : Hid (∀ t, t < cap * 2 → (W1.cell? ⟨g, t, none⟩).isSome = true ∧ W1.frozen? ⟨g, t, none⟩ = false) := fun t ht => by
    rw [hW1, World.frozen?_setCells]
    refine ⟨?_, (own_there h ht).2⟩
    have hh := (own_there h ht).1
    exact World.isSome_setCells g news (i * 2) w.drew ⟨g, t, none⟩ hh
  have hcl : ∀ ty, (Builtin.clear_ #[135] ty #[.slice (some ⟨g, (n - (j - i)) * 2, none⟩) (n - (n - (j - i))) (cap - (n - (j - i)))]).run Tryz.prog W1 = .ok (.tuple #[]) (W1.setCells g ((n - (j - i)) * 2) zs) := by
    intro ty
    have := run_clear_any (P := Tryz.prog) W1 135 137 ty (Value.agg #[.int .i64 0, .int .i64 0]) Tryz.underlying135 Tryz.zeroValue137 g ((n - (j - i)) * 2) (n - (n - (j - i))) (cap - (n - (j - i))) (by omega) zs (by rw [hzs, show n - (n - (j - i)) = j - i by omega]) hz1c
      (fun t ht => (X.out ((n - (j - i)) * 2 + t) (by rw [hzl] at ht; omega)).1) (fun t ht => (X.out ((n - (j - i)) * 2 + t) (by rw [hzl] at ht; omega)).2)
    simpa using this
  have FIN : Hid ((W1.setCells g ((n - (j - i)) * 2) zs).ownsRow B 137 2 (.slice (some ⟨g, 0, none⟩) (n - (j - i)) cap) (n - (j - i)) (xs.take (i * 2) ++ xs.drop (j * 2)) ∧ w.grownBy (W1.setCells g ((n - (j - i)) * 2) zs) (some g)) := by
    have hd : w.drew.ownsRow B 137 2 (.slice (some ⟨g, 0, none⟩) n cap) n xs := h
    have := own_cut (W1 := W1) (W2 := W1.setCells g ((n - (j - i)) * 2) zs) hd (Nat.le_of_lt hij) hj hzl (by rw [hW1, hnews]) rfl
    exact ⟨this.1, ⟨this.2.os, this.2.tape, this.2.output, this.2.size, this.2.block⟩⟩
  have hic : i ≤ cap := by omega
  have hjc : j ≤ cap := by omega
  have hin : i + (n - j) = n - (j - i) := by omega
  generalize hrr : n - (j - i) = rr at *
  have hrc : ¬ cap = rr := by omega
  have hrl : rr ≤ n := by omega
  clear hW1 h hnews hlen hz1c hzs h1 hzl hl
  go_enter Tryz.func307, Tryz.ntmps307
  go_wp2_with fail
  go_region_law (refine step_append_room rfl (.tmp 22) (.tmp 25) 135 rfl 137 i0 2 Tryz.underlying135 hi0 hz1 g 0 i cap (by simp [Act.eval, Act.put]) A (n - j) (cap - j) news (by simp [Act.eval, Act.put]) s1.out hsrc.out s2.out (by omega) s3.out ?_; rw [← hW.out, hin])
  go_wp2
  go_ret
  first | exact ⟨rfl, FIN.out⟩ | (have q := FIN.out; rw [Nat.mul_one rr] at q; exact ⟨rfl, q⟩)

set_option maxRecDepth 100000 in
set_option maxHeartbeats 4000000 in
theorem delSeg_any {w : World} {B g n cap i j : Nat} {xs : List Value} (h : w.ownsRow B 128 1 (.slice (some ⟨g, 0, none⟩) n cap) n xs) (h1 : ∀ u ∈ xs, u.oneCell' = true) (hij : i < j) (hj : j ≤ n) :
    Calls Tryz.prog 309 #[.slice (some ⟨g, 0, none⟩) n cap, .int .i64 (i : Int), .int .i64 (j : Int)] w fun e w' => e = .returned (.slice (some ⟨g, 0, none⟩) (n - (j - i)) cap) ∧ w'.ownsRow B 128 1 (.slice (some ⟨g, 0, none⟩) (n - (j - i)) cap) (n - (j - i)) (xs.take (i * 1) ++ xs.drop (j * 1)) ∧ w.grownBy w' (some g) := by
  obtain ⟨i0, hi0, hz0, hz1, hz2⟩ := info_parts Tryz.info128
  have hl : xs.length = n * 1 := h.1
  obtain ⟨hc, hm⟩ : n ≤ cap ∧ cap ≤ maxLen := by
    rcases h.2 with ⟨h0, _⟩ | ⟨g', cap', cur, hv, hB, hb, hc, hm, hs, hx⟩
    · cases h0
    · injection hv with hv1 hv2 hv3
      subst hv3
      exact ⟨hc, hm⟩
  unfold maxLen at hm
  obtain ⟨news, hnews⟩ : ∃ news, news = xs.drop (j * 1) := ⟨_, rfl⟩
  have hlen : news.length = (n - j) * 1 := by rw [hnews, List.length_drop, hl]; omega
  obtain ⟨A, hA, hsrc⟩ : ∃ A : Addr, (if cap = j then some (⟨g, 0, none⟩ : Addr) else some ⟨g, j, none⟩) = some A ∧ Hid (∀ t u, news[t]? = some u → w.drew.cell? (A.add t) = some u) := by
    by_cases hcj : cap = j
    · refine ⟨⟨g, 0, none⟩, by simp [hcj], fun t u hu => ?_⟩
      have h0 : news.length = 0 := by rw [hlen]; omega
      rw [List.length_eq_zero_iff.1 h0] at hu
      simp at hu
    · refine ⟨⟨g, j, none⟩, by simp [hcj], fun t u hu => ?_⟩
      rw [Addr.add_lit]
      rw [hnews, List.getElem?_drop] at hu
      exact own_get h (by simpa using hu)
  have s1 : Hid (news.length = (n - j) * 1) := hlen
  have s2 : Hid (∀ u ∈ news, u.oneCell' = true) := fun u hu => h1 u (by rw [hnews] at hu; exact List.mem_of_mem_drop hu)
  have s3 : Hid (∀ t, t < news.length → (w.drew.cell? ⟨g, 0 + i * 1 + t, none⟩).isSome = true ∧ w.drew.frozen? ⟨g, 0 + i * 1 + t, none⟩ = false) := fun t ht => by
    rw [Nat.zero_add]
    exact own_there h (j := i * 1 + t) (by rw [hlen] at ht; omega)
  obtain ⟨W1, hW1⟩ : ∃ W1, W1 = w.drew.setCells g (i * 1) news := ⟨_, rfl⟩
  have hW : Hid (W1 = w.drew.setCells g (0 + i * 1) news) := by rw [Nat.zero_add]; exact hW1
  obtain ⟨zs, hzs⟩ : ∃ zs, zs = (Builtin.zeroCells (Value.pointer none).cells (j - i)).toList := ⟨_, rfl⟩
  have hzl : zs.length = (j - i) * 1 := by rw [hzs]; simp [Builtin.zeroCells, Value.cells]
  have hz1c : ∀ u ∈ zs, u.oneCell' = true := by
    intro u hu
    rw [hzs] at hu
    exact zero_delSeg u hu
  have X : Hid (∀ t, t < cap * 1 → (W1.cell? ⟨g, t, none⟩).isSome = true ∧ W1.frozen? ⟨g, t, none⟩ = false) := fun t ht => by
    rw [hW1, World.frozen?_setCells]
    refine ⟨?_, (own_there h ht).2⟩
    have hh := (own_there h ht).1
    exact World.isSome_setCells g news (i * 1) w.drew ⟨g, t, none⟩ hh
  have hcl : ∀ ty, (Builtin.clear_ #[129] ty #[.slice (some ⟨g, (n - (j - i)), none⟩) (n - (n - (j - i))) (cap - (n - (j - i)))]).run Tryz.prog W1 = .ok (.tuple #[]) (W1.setCells g ((n - (j - i)) * 1) zs) := by
    intro ty
    have := run_clear_any (P := Tryz.prog) W1 129 128 ty (Value.pointer none) Tryz.underlying129 Tryz.zeroValue128 g ((n - (j - i)) * 1) (n - (n - (j - i))) (cap - (n - (j - i))) (by omega) zs (by rw [hzs, show n - (n - (j - i)) = j - i by omega]) hz1c
      (fun t ht => (X.out ((n - (j - i)) * 1 + t) (by rw [hzl] at ht; omega)).1) (fun t ht => (X.out ((n - (j - i)) * 1 + t) (by rw [hzl] at ht; omega)).2)
    simpa using this
  have FIN : Hid ((W1.setCells g ((n - (j - i)) * 1) zs).ownsRow B 128 1 (.slice (some ⟨g, 0, none⟩) (n - (j - i)) cap) (n - (j - i)) (xs.take (i * 1) ++ xs.drop (j * 1)) ∧ w.grownBy (W1.setCells g ((n - (j - i)) * 1) zs) (some g)) := by
    have hd : w.drew.ownsRow B 128 1 (.slice (some ⟨g, 0, none⟩) n cap) n xs := h
    have := own_cut (W1 := W1) (W2 := W1.setCells g ((n - (j - i)) * 1) zs) hd (Nat.le_of_lt hij) hj hzl (by rw [hW1, hnews]) rfl
    exact ⟨this.1, ⟨this.2.os, this.2.tape, this.2.output, this.2.size, this.2.block⟩⟩
  have hic : i ≤ cap := by omega
  have hjc : j ≤ cap := by omega
  have hin : i + (n - j) = n - (j - i) := by omega
  generalize hrr : n - (j - i) = rr at *
  have hrc : ¬ cap = rr := by omega
  have hrl : rr ≤ n := by omega
  clear hW1 h hnews hlen hz1c hzs h1 hzl hl
  go_enter Tryz.func309, Tryz.ntmps309
  go_wp2_with fail
  go_region_law (refine step_append_room rfl (.tmp 22) (.tmp 25) 129 rfl 128 i0 1 Tryz.underlying129 hi0 hz1 g 0 i cap (by simp [Act.eval, Act.put]) A (n - j) (cap - j) news (by simp [Act.eval, Act.put]) s1.out hsrc.out s2.out (by omega) s3.out ?_; rw [← hW.out, hin])
  go_wp2
  go_ret
  first | exact ⟨rfl, FIN.out⟩ | (have q := FIN.out; rw [Nat.mul_one rr] at q; exact ⟨rfl, q⟩)
end Go.Proofs.YtkncboinfcnklaaGreatDoor

namespace Go.Proofs.YtkncboinfcnklaaGreatDoor
open Go.RowKit Go.Deep Go.Proofs.YtkncboinfcnklaaGreatDoor.Mth

/-- A block that holds a node of a set of numbers. -/
def isN (w : World) (k : Nat) : Prop := ∃ C fr, w.heap[k]? = some (Obj.cells C 325 fr)
theorem inT_typed {w w' : World} (hs : ∀ g, isN w g → w'.heap[g]? = w.heap[g]?) : ∀ {T : BT Int}, InT WI.eI w T → InT WI.eI w' T
  | .nil, _ => trivial
  | .node b o a l r, ⟨h0, h1, h2, h3, h4, hl, hr⟩ => by
    have e := hs b h2.2
    have hk : ∀ j, w'.cell? ⟨b, j, none⟩ = w.cell? ⟨b, j, none⟩ := fun j => World.cell?_of_block (w := w) (a := ⟨b, j, none⟩) e
    exact ⟨h0, (hk 0).trans h1, h2.same e, (hk 2).trans h3, (hk 3).trans h4, inT_typed hs hl, inT_typed hs hr⟩

/-- How an element of a map reads: as itself. -/
def idE : Value → Option (DataW Value × List MemPlace) := fun v => some (.held v, [])
def kl (x : ByteArray) : Lit := .string x.data.toList
abbrev zS : DataW Value := .held (.agg #[.pointer none])
theorem idE_inv {v : Value} {d : DataW Value} {ps : List MemPlace} (h : idE v = some (d, ps)) : d = .held v := by
  simp [idE] at h
  exact h.1.symm
theorem key_of (x : ByteArray) (h : x.size ≤ maxLen) : keyOf Tryz.prog 9 (.string x) = some (kl x) := Go.WideMaps.keyOf_string_mk Tryz.underlying9 h
theorem kl_ne {x y : ByteArray} (h : x ≠ y) : kl x ≠ kl y := by
  intro q
  injection q with q
  exact h (by
    have := congrArg List.toArray q
    simp at this
    exact ByteArray.ext this)

/-- The index of a segment, where f tells of each word the numbers of the entries that have it. -/
def Idx (w : World) (mb N : Nat) (f : ByteArray → List Int) : Prop :=
  ∃ D n, w.ownsMap Tryz.prog 9 idE mb n D ∧ n ≤ N ∧ ∀ x : ByteArray, ∃ T : BT Int, D.atKey (kl x) zS = .held (.agg #[T.ptr]) ∧ InT WI.eI w T ∧ (lst T).Pairwise (fun a b : Int => a < b) ∧ lst T = f x
theorem Idx.same {w w' : World} {mb N : Nat} {f : ByteArray → List Int} (h : Idx w mb N f) (hm : w'.heap[mb]? = w.heap[mb]?) (hs : ∀ g, isN w g → w'.heap[g]? = w.heap[g]?) : Idx w' mb N f := by
  obtain ⟨D, n, ⟨es, clock, hb, F, hn, hD⟩, hN, hx⟩ := h
  refine ⟨D, n, ⟨es, clock, hm.trans hb, F, hn, hD⟩, hN, fun x => ?_⟩
  obtain ⟨T, h1, h2, h3⟩ := hx x
  exact ⟨T, h1, inT_typed hs h2, h3⟩
theorem Idx.lt {w : World} {mb N : Nat} {f : ByteArray → List Int} (h : Idx w mb N f) : mb < w.heap.size := by
  obtain ⟨D, n, h, _⟩ := h
  exact h.lt
theorem Idx.notCells {w : World} {mb N : Nat} {f : ByteArray → List Int} (h : Idx w mb N f) : ∃ es c, w.heap[mb]? = some (Obj.map es c) := by
  obtain ⟨D, n, ⟨es, clock, hb, _⟩, _⟩ := h
  exact ⟨es, clock, hb⟩
theorem Idx.mono {w : World} {mb N N' : Nat} {f : ByteArray → List Int} (h : Idx w mb N f) (hN : N ≤ N') : Idx w mb N' f := by
  obtain ⟨D, n, h1, h2, h3⟩ := h
  exact ⟨D, n, h1, Nat.le_trans h2 hN, h3⟩
theorem Idx.made (w : World) (N : Nat) : Idx (w.alloc (.map #[] 0)) w.heap.size N (fun _ => []) :=
  ⟨.map [], 0, World.ownsMap_made w _ _ _, Nat.zero_le _, fun _x => ⟨.nil, rfl, trivial, List.Pairwise.nil, rfl⟩⟩

/-- A look-up in an index. -/
theorem Idx.look {w : World} {mb N : Nat} {f : ByteArray → List Int} (h : Idx w mb N f) (x : ByteArray) (hx : x.size ≤ maxLen) :
    ∃ T : BT Int, (Instr.lookup 196 (.map (some mb)) (.string x) false).run Tryz.prog w = .ok (.agg #[T.ptr]) w ∧ InT WI.eI w T ∧ (lst T).Pairwise (fun a b : Int => a < b) ∧ lst T = f x := by
  obtain ⟨D, n, hm, _, hf⟩ := h
  obtain ⟨T, h1, h2, h3⟩ := hf x
  obtain ⟨v, ps, hr, hv⟩ := hm.lookup (Maps.string_keyed Tryz.underlying9) Tryz.underlying196 (Tryz.zeroValue208 w) (zd := zS) (zp := []) rfl (key_of x hx)
  have := idE_inv hv
  rw [h1] at this
  injection this with this
  subst this
  exact ⟨T, hr, h2, h3⟩
/-- A word's set is laid anew. -/
theorem Idx.put {w : World} {mb N : Nat} {f : ByteArray → List Int} (h : Idx w mb N f) (x : ByteArray) (hx : x.size ≤ maxLen) (hN : N < maxLen) (T : BT Int) (hT : InT WI.eI w T) (hup : (lst T).Pairwise (fun a b : Int => a < b)) :
    ∃ w', (Instr.mapUpdate 196 (.map (some mb)) (.string x) (.agg #[T.ptr])).run Tryz.prog w = .ok () w' ∧ Idx w' mb (N + 1) (fun y => if y = x then lst T else f y) ∧ w.grownBy w' (some mb) := by
  obtain ⟨D, n, hm, hn, hf⟩ := h
  obtain ⟨w', hr, ho, hg⟩ := hm.update (Maps.string_keyed Tryz.underlying9) Tryz.underlying196 (Nat.lt_of_le_of_lt hn hN) (val := .agg #[T.ptr]) (d := .held (.agg #[T.ptr])) (ps := []) (key_of x hx) rfl
  have hnode : ∀ g, isN w g → w'.heap[g]? = w.heap[g]? := by
    rintro g ⟨C, fr, hC⟩
    refine hg.block g (Array.getElem?_eq_some_iff.1 hC).1 (fun q => ?_)
    injection q with q
    obtain ⟨es, c, hb, _⟩ := hm
    rw [← q, hC] at hb
    cases hb
  refine ⟨w', hr, ⟨_, n + 1, ho, by omega, fun y => ?_⟩, hg⟩
  by_cases hy : y = x
  · subst hy
    exact ⟨T, Maps.atKey_put_same hm.isMap (Maps.string_keyed Tryz.underlying9 |>.key (key_of y hx)) _ _, inT_typed hnode hT, hup, (if_pos rfl).symm⟩
  · obtain ⟨T', h1, h2, h3, h4⟩ := hf y
    exact ⟨T', by rw [Maps.atKey_put_other (kl_ne hy)]; exact h1, inT_typed hnode h2, h3, h4.trans (if_neg hy).symm⟩

/-- A segment: its entries, and of each word the numbers of those that have it. -/
structure SegAt (w : World) (B s : Nat) (es : List Ent) (ev : Value) (mb : Nat) : Prop where
  blk : w.heap[s]? = some (Obj.cells #[ev, .map (some mb)] 198 (0, 0))
  own : w.ownsRow B 66 3 ev es.length (es.flatMap eC)
  idx : Idx w mb (es.length * 64) (fun x => hasUp es x es.length)
  ge : B ≤ s ∧ B ≤ mb
def ownS (s mb : Nat) (ev : Value) (k : Nat) : Prop := k = s ∨ some k = ev.ownBlock ∨ k = mb
theorem SegAt.same {w w' : World} {B s mb : Nat} {es : List Ent} {ev : Value} (h : SegAt w B s es ev mb) (hs : ∀ g, ownS s mb ev g ∨ isN w g → w'.heap[g]? = w.heap[g]?) : SegAt w' B s es ev mb :=
  ⟨(hs s (Or.inl (Or.inl rfl))).trans h.blk, own_same h.own (fun g hg => hs g (Or.inl (Or.inr (Or.inl hg)))), h.idx.same (hs mb (Or.inl (Or.inr (Or.inr rfl)))) (fun g hg => hs g (Or.inr hg)), h.ge⟩
theorem SegAt.ownLt {w : World} {B s mb : Nat} {es : List Ent} {ev : Value} (h : SegAt w B s es ev mb) {k : Nat} (hk : ownS s mb ev k) : k < w.heap.size ∧ B ≤ k ∧ ¬ isN w k := by
  rcases hk with rfl | hk | rfl
  · exact ⟨(Array.getElem?_eq_some_iff.1 h.blk).1, h.ge.1, fun ⟨C, fr, q⟩ => by rw [h.blk] at q; injection q with q; injection q with _ q _; exact absurd q (by decide)⟩
  · obtain ⟨h1, h2, D, hD⟩ := own_block h.own hk
    exact ⟨h2, h1, fun ⟨C, fr, q⟩ => by rw [hD] at q; injection q with q; injection q with _ q _; exact absurd q (by decide)⟩
  · obtain ⟨es', c, hm⟩ := h.idx.notCells
    exact ⟨h.idx.lt, h.ge.2, fun ⟨C, fr, q⟩ => by rw [hm] at q; cases q⟩
theorem isN_lt {w : World} {k : Nat} (h : isN w k) : k < w.heap.size := by
  obtain ⟨C, fr, q⟩ := h
  exact (Array.getElem?_eq_some_iff.1 q).1
theorem SegAt.below {w w' : World} {B s mb : Nat} {es : List Ent} {ev : Value} (h : SegAt w B s es ev mb) (hb : Below w.heap.size w w') : SegAt w' B s es ev mb :=
  h.same fun g hg => hb.block g (by
    rcases hg with hg | hg
    · exact (h.ownLt hg).1
    · exact isN_lt hg)
end Go.Proofs.YtkncboinfcnklaaGreatDoor

namespace Go.Proofs.YtkncboinfcnklaaGreatDoor
open Go.RowKit Go.Deep Go.Proofs.YtkncboinfcnklaaGreatDoor.Mth

theorem eC_atG : ∀ {l : List Ent} {j : Nat}, j < l.length → (l.flatMap eC)[j * 3]? = some (.int .i64 (l.getD j e0).seq) ∧ (l.flatMap eC)[j * 3 + 1]? = some (.int .i64 (l.getD j e0).time) ∧ (l.flatMap eC)[j * 3 + 2]? = some (.string (l.getD j e0).text)
  | f :: l, 0, _ => by simp [eC]
  | f :: l, j + 1, h => by
    obtain ⟨a, b, c⟩ := eC_atG (l := l) (j := j) (by simpa using h)
    rw [List.flatMap_cons]
    refine ⟨?_, ?_, ?_⟩
    · rw [List.getElem?_append_right (by simp [eC]; omega)]; simpa [eC, show (j + 1) * 3 - 3 = j * 3 by omega] using a
    · rw [List.getElem?_append_right (by simp [eC]; omega)]; simpa [eC, show (j + 1) * 3 + 1 - 3 = j * 3 + 1 by omega] using b
    · rw [List.getElem?_append_right (by simp [eC]; omega)]; simpa [eC, show (j + 1) * 3 + 2 - 3 = j * 3 + 2 by omega] using c
theorem own_en {w : World} {B : Nat} {e : TypeId} {g n c : Nat} {es : List Ent} (h : w.ownsRow B e 3 (.slice (some ⟨g, 0, none⟩) n c) n (es.flatMap eC)) {k : Nat} (hn : es.length = n) (hk : k < n) : w.cell? ⟨g, k * 3, none⟩ = some (.int .i64 (es.getD k e0).seq) ∧ w.cell? ⟨g, k * 3 + 1, none⟩ = some (.int .i64 (es.getD k e0).time) ∧ w.cell? ⟨g, k * 3 + 2, none⟩ = some (.string (es.getD k e0).text) := by
  obtain ⟨h0, h1, h2⟩ := eC_atG (l := es) (j := k) (by omega)
  exact ⟨own_get h h0, own_get h h1, own_get h h2⟩

/-! ### which entries are found -/
theorem range_map {α : Type} (es : List α) (z : α) (q : α → Bool) : ((List.range es.length).filter (fun i => q (es.getD i z))).map (fun i => es.getD i z) = es.filter q := by
  have h : (List.range es.length).map (fun i => es.getD i z) = es := by
    apply List.ext_getElem
    · simp
    · intro i h1 h2
      simp at h1
      simp [List.getD, h1]
  have h2 : ((List.range es.length).filter (q ∘ (fun i => es.getD i z))).map (fun i => es.getD i z) = ((List.range es.length).map (fun i => es.getD i z)).filter q := by rw [List.filter_map]
  rw [h] at h2
  exact h2
/-- The entries that have a word and a time from lo to hi. -/
def fnd (es : List Ent) (x : ByteArray) (lo hi : Int) : List Ent := es.filter (fun e => memD x (wd e.text) && (decide (lo ≤ e.time) && decide (e.time ≤ hi)))
/-- Times do not fall. -/
def Tms (es : List Ent) : Prop := ∀ i j, i ≤ j → j < es.length → (es.getD i e0).time ≤ (es.getD j e0).time
theorem fnd_eq {es : List Ent} {x : ByteArray} {lo hi : Int} {a b : Nat} (_ha : a ≤ es.length) (_hb : b ≤ es.length)
    (h1 : ∀ i, i < a → decide (lo ≤ (es.getD i e0).time) = false) (h2 : ∀ i, a ≤ i → i < es.length → decide (lo ≤ (es.getD i e0).time) = true)
    (h3 : ∀ i, i < b → decide (hi < (es.getD i e0).time) = false) (h4 : ∀ i, b ≤ i → i < es.length → decide (hi < (es.getD i e0).time) = true) :
    (btw (fun a b : Int => a < b) (a : Int) ((b : Int) - 1) (hasUp es x es.length)).map (fun i => es.getD i.toNat e0) = fnd es x lo hi := by
  unfold btw hasUp fnd
  rw [List.filter_map, List.map_map, List.filter_filter, ← range_map es e0]
  rw [show ((fun i : Int => es.getD i.toNat e0) ∘ fun i : Nat => (i : Int)) = fun i : Nat => es.getD i e0 from by funext i; simp]
  congr 1
  apply List.filter_congr
  intro i hmem
  have hil : i < es.length := by simpa using hmem
  simp only [Function.comp]
  have c1 : (!decide ((i : Int) < (a : Int))) = decide (lo ≤ (es.getD i e0).time) := by
    by_cases q : i < a
    · rw [h1 i q, decide_eq_true (by omega)]; rfl
    · rw [h2 i (by omega) hil, decide_eq_false (by omega)]; rfl
  have c2 : (!decide ((b : Int) - 1 < (i : Int))) = decide ((es.getD i e0).time ≤ hi) := by
    by_cases q : i < b
    · have := h3 i q
      rw [decide_eq_false (by omega), decide_eq_true]; · rfl
      · have := of_decide_eq_false this; omega
    · have := of_decide_eq_true (h4 i (by omega) hil)
      rw [decide_eq_true (by omega), decide_eq_false (by omega)]; rfl
  rw [c1, c2]
  cases memD x (wd (es.getD i e0).text) <;> cases decide (lo ≤ (es.getD i e0).time) <;> cases decide ((es.getD i e0).time ≤ hi) <;> rfl

set_option maxRecDepth 100000 in
set_option maxHeartbeats 1000000 in
theorem find1_any {w : World} {s g n c x y i : Nat} {lo t : Int} {_u : Value} (hx : w.cell? ⟨x, 0, none⟩ = some (.pointer (some ⟨s, 0, none⟩))) (hy : w.cell? ⟨y, 0, none⟩ = some (.int .i64 lo)) (hs : w.cell? ⟨s, 0, none⟩ = some (.slice (some ⟨g, 0, none⟩) n c)) (ht : w.cell? ⟨g, i * 3 + 1, none⟩ = some (.int .i64 t)) (hi : i < n) (_hn : n ≤ 4194304) (_hc : n ≤ c) (_hm : c ≤ maxLen) :
    Calls Tryz.prog 150 #[.int .i64 (i : Int), .pointer (some ⟨x, 0, none⟩), .pointer (some ⟨y, 0, none⟩)] w fun e w' => e = .returned (.bool (decide (lo ≤ t))) ∧ ∃ m', w' = w.drewN m' := by
  unfold maxLen at _hm
  go_enter Tryz.func150, Tryz.ntmps150
  go_wp2_with fail
  go_quiet (fail)
  go_wp2
  go_ret
  exact ⟨by first | rfl | simp, _, rfl⟩

set_option maxRecDepth 100000 in
set_option maxHeartbeats 1000000 in
theorem find2_any {w : World} {s g n c x y i : Nat} {lo t : Int} {_u : Value} (hx : w.cell? ⟨x, 0, none⟩ = some (.pointer (some ⟨s, 0, none⟩))) (hy : w.cell? ⟨y, 0, none⟩ = some (.int .i64 lo)) (hs : w.cell? ⟨s, 0, none⟩ = some (.slice (some ⟨g, 0, none⟩) n c)) (ht : w.cell? ⟨g, i * 3 + 1, none⟩ = some (.int .i64 t)) (hi : i < n) (_hn : n ≤ 4194304) (_hc : n ≤ c) (_hm : c ≤ maxLen) :
    Calls Tryz.prog 151 #[.int .i64 (i : Int), .pointer (some ⟨x, 0, none⟩), .pointer (some ⟨y, 0, none⟩)] w fun e w' => e = .returned (.bool (decide (lo < t))) ∧ ∃ m', w' = w.drewN m' := by
  unfold maxLen at _hm
  go_enter Tryz.func151, Tryz.ntmps151
  go_wp2_with fail
  go_quiet (fail)
  go_wp2
  go_ret
  exact ⟨by first | rfl | simp, _, rfl⟩

theorem CurE.pre {w wA w1 : World} {v : Value} {l : List Ent} (hb : Below w.heap.size w wA) (h : CurE wA w1 v l) : CurE w w1 v l := ⟨hb.trans (h.1.mono hb.size), own_base h.2 hb.size⟩

/-- Three boxes. -/
theorem three_boxes (w : World) (p q r : Value) (t1 t2 t3 : TypeId) : ∃ W, W = ((w.alloc (Obj.cells #[p] t1)).alloc (Obj.cells #[q] t2)).alloc (Obj.cells #[r] t3) ∧ Below w.heap.size w W ∧ W.cell? ⟨w.heap.size, 0, none⟩ = some p ∧ W.cell? ⟨w.heap.size + 1, 0, none⟩ = some q ∧ W.cell? ⟨w.heap.size + 2, 0, none⟩ = some r ∧ W.heap.size = w.heap.size + 3 := by
  refine ⟨_, rfl, ?_, ?_, ?_, ?_, ?_⟩
  · have b1 := below_allocG w (Obj.cells #[p] t1)
    have b2 := below_allocG (w.alloc (Obj.cells #[p] t1)) (Obj.cells #[q] t2)
    have b3 := below_allocG ((w.alloc (Obj.cells #[p] t1)).alloc (Obj.cells #[q] t2)) (Obj.cells #[r] t3)
    exact (b1.trans (b2.mono b1.size)).trans (b3.mono (b1.trans (b2.mono b1.size)).size)
  · exact (cell_of (j := 0) (old_blk _ (old_blk _ (new_blk w #[p] t1))) rfl).1
  · have := new_blk (w.alloc (Obj.cells #[p] t1)) #[q] t2
    rw [World.size_alloc] at this
    exact (cell_of (j := 0) (old_blk _ this) rfl).1
  · have := new_blk ((w.alloc (Obj.cells #[p] t1)).alloc (Obj.cells #[q] t2)) #[r] t3
    rw [World.size_alloc, World.size_alloc] at this
    exact (cell_of (j := 0) this rfl).1
  · simp

set_option maxRecDepth 100000 in
set_option maxHeartbeats 4000000 in
theorem find_seg {w : World} {B s mb : Nat} {es : List Ent} {ev : Value} (h : SegAt w B s es ev mb) (x : ByteArray) (hx : x.size ≤ maxLen) (lo hi : Int) (hl : es.length ≤ 1048576) (ht : Tms es) :
    Calls Tryz.prog 92 #[.pointer (some ⟨s, 0, none⟩), .string x, .int .i64 lo, .int .i64 hi] w fun e w' => ∃ v, e = .returned v ∧ CurE w w' v (fnd es x lo hi) := by
  obtain ⟨i0, hi0, hz0, hz1, hz2⟩ := info_parts Tryz.info66
  obtain ⟨a, c, rfl, hc, hm⟩ := own_slice h.own
  obtain ⟨W, hW, hb, k1, k2, k3, hsz⟩ := three_boxes w (.pointer (some ⟨s, 0, none⟩)) (.int .i64 lo) (.int .i64 hi) 128 3 3
  have hS := h.below hb
  obtain ⟨q0, _⟩ := cell_of (j := 0) (u := .slice a es.length c) hS.blk rfl
  obtain ⟨q1, _⟩ := cell_of (j := 1) (u := .map (some mb)) hS.blk rfl
  have C1 : Hid (Calls Tryz.prog 149 #[.int .i64 (es.length : Int), .func (.func 150) #[] #[.pointer (some ⟨w.heap.size, 0, none⟩), .pointer (some ⟨w.heap.size + 1, 0, none⟩)]] W (Srch W es.length (fun i => decide (lo ≤ (es.getD i e0).time)))) := by
    refine search_find1 es.length w.heap.size (w.heap.size + 1) _ W (by omega) (fun i j hij hj hp => decide_eq_true (Int.le_trans (of_decide_eq_true hp) (ht i j hij hj))) (fun i m hi' => ?_)
    obtain ⟨g, rfl⟩ := own_some hS.own (by omega)
    refine (find1_any (w := W.drewN m) (s := s) (g := g) (n := es.length) (c := c) (_u := .slice none 0 0) k1 k2 q0 (own_en hS.own rfl hi').2.1 hi' (by omega) hc hm).mono ?_
    rintro e w' ⟨rfl, m', rfl⟩
    exact ⟨rfl, m + m', by simp⟩
  have C2 : Hid (∀ m, Calls Tryz.prog 149 #[.int .i64 (es.length : Int), .func (.func 151) #[] #[.pointer (some ⟨w.heap.size, 0, none⟩), .pointer (some ⟨w.heap.size + 2, 0, none⟩)]] (W.drewN m) (Srch (W.drewN m) es.length (fun i => decide (hi < (es.getD i e0).time)))) := by
    intro m0
    refine search_find2 es.length w.heap.size (w.heap.size + 2) _ (W.drewN m0) (by omega) (fun i j hij hj hp => decide_eq_true (Int.lt_of_lt_of_le (of_decide_eq_true hp) (ht i j hij hj))) (fun i m hi' => ?_)
    obtain ⟨g, rfl⟩ := own_some hS.own (by omega)
    refine (find2_any (w := (W.drewN m0).drewN m) (s := s) (g := g) (n := es.length) (c := c) (_u := .slice none 0 0) k1 k3 q0 (own_en hS.own rfl hi').2.1 hi' (by omega) hc hm).mono ?_
    rintro e w' ⟨rfl, m', rfl⟩
    exact ⟨rfl, m + m', by simp [Nat.add_assoc]⟩
  unfold maxLen at hm
  have HS := hide hS
  have HB := hide hb
  have HSZ := hide hsz
  clear hS hb h ht hsz
  generalize hn : es.length = n at *
  have HN := hide hn
  clear hn
  have q0' := q0
  rw [hW] at q0'
  have HW := hide hW
  clear hW
  go_enter Tryz.func92, Tryz.ntmps92
  go_wp2_with fail
  rw [← HW.out]
  refine C1.out.mono ?_
  rintro e w1 ⟨fa, rfl, hfa, hfa1, hfa2, m1, rfl⟩
  have HA := hide (⟨hfa1, hfa2⟩ : (∀ i, i < fa → decide (lo ≤ (es.getD i e0).time) = false) ∧ ∀ i, fa ≤ i → i < n → decide (lo ≤ (es.getD i e0).time) = true)
  clear hfa1 hfa2 C1 q0'
  go_wp2_with fail
  refine (C2.out _).mono ?_
  rintro e w1 ⟨fb, rfl, hfb, hfb1, hfb2, m2, rfl⟩
  have HB2 := hide (⟨hfb1, hfb2⟩ : (∀ i, i < fb → decide (hi < (es.getD i e0).time) = false) ∧ ∀ i, fb ≤ i → i < n → decide (hi < (es.getD i e0).time) = true)
  clear hfb1 hfb2 C2
  rw [World.drewN_drewN]
  obtain ⟨W2, hW2⟩ : ∃ W2, W2 = W.drewN (m1 + m2) := ⟨_, rfl⟩
  have HB3 : Hid (Below w.heap.size w W2) := by rw [hW2]; exact HB.out.trans ((drewG W _).mono HB.out.size)
  have hS2 : SegAt W2 B s es (.slice a n c) mb := by rw [hW2]; exact HS.out.below (drewG W _)
  have k12 : W2.cell? ⟨w.heap.size, 0, none⟩ = some (.pointer (some ⟨s, 0, none⟩)) := by rw [hW2]; exact k1
  rw [← hW2]
  obtain ⟨q02, _⟩ := cell_of (j := 0) (u := .slice a n c) hS2.blk rfl
  obtain ⟨q12, _⟩ := cell_of (j := 1) (u := .map (some mb)) hS2.blk rfl
  clear hW2 k1 k2 k3 q0 q1 HB HS HW HSZ
  obtain ⟨T, hlook, hT, hup, hlst⟩ := hS2.idx.look x hx
  obtain ⟨u, hu⟩ := WI.ptr_pointer T
  rw [hu] at hlook
  have HSET : Hid (WI.SetAt (W2.alloc (Obj.cells #[.pointer u] 208)) W2.heap.size T) := by
    obtain ⟨d1, d2⟩ := cell_of (j := 0) (u := .pointer u) (new_blk W2 #[.pointer u] 208) rfl
    exact ⟨by rw [hu]; exact d1, d2, InT.below (below_allocG W2 _) hT, hup⟩
  have hlen : (lst T).length ≤ n := by rw [hlst]; unfold hasUp; rw [List.length_map]; exact Nat.le_trans (List.length_filter_le _ _) (by simp [HN.out])
  have CB := hide (WI.between_any W2.heap.size T (fa : Int) ((fb : Int) - 1) _ HSET.out (by omega))
  rw [hlst] at CB
  have HS2 := hide hS2
  have HUP := hide hup
  clear hS2 hT hup hlst hlen HUP HSET
  go_wp2_with (first | (go_at_call 152; refine CB.out.mono ?_; rintro e w4 ⟨v4, rfl, hc4⟩; obtain ⟨a4, c4, rfl, hc4c, hc4m⟩ := own_slice hc4.2; have HC4 := hide hc4; clear hc4))
  have HLN : Hid (∀ y ∈ btw (fun a b : Int => a < b) (fa : Int) ((fb : Int) - 1) (hasUp es x es.length), ∃ j : Nat, j < n ∧ y = (j : Int)) := by
    intro y hy
    have := (List.mem_filter.1 hy).1
    unfold hasUp at this
    obtain ⟨j, hj, rfl⟩ := List.mem_map.1 this
    have := (List.mem_filter.1 hj).1
    exact ⟨j, by rw [← HN.out]; simpa using this, rfl⟩
  have HEQ := hide (fnd_eq (es := es) (x := x) (lo := lo) (hi := hi) (a := fa) (b := fb) (by rw [HN.out]; exact hfa) (by rw [HN.out]; exact hfb) HA.out.1 (by rw [HN.out]; exact HA.out.2) HB2.out.1 (by rw [HN.out]; exact HB2.out.2))
  have HLL : Hid ((btw (fun a b : Int => a < b) (fa : Int) ((fb : Int) - 1) (hasUp es x es.length)).length ≤ n) := by
    refine Nat.le_trans (List.length_filter_le _ _) ?_
    unfold hasUp
    rw [List.length_map]
    exact Nat.le_trans (List.length_filter_le _ _) (by simp [HN.out])
  have HS4 := hide ((HS2.out.below (below_allocG W2 (Obj.cells #[.pointer u] 208))).below HC4.out.1)
  have HB4 : Hid (Below w.heap.size w w4) := by
    have b1 := HB3.out.trans ((below_allocG W2 (Obj.cells #[.pointer u] 208)).mono HB3.out.size)
    exact b1.trans (HC4.out.1.mono b1.size)
  have k14 : w4.cell? ⟨w.heap.size, 0, none⟩ = some (.pointer (some ⟨s, 0, none⟩)) := by
    have b1 := (below_allocG W2 (Obj.cells #[.pointer u] 208)).cell (p := ⟨w.heap.size, 0, none⟩) (World.block_lt_of_cell? _ _ k12)
    have e1 := b1.trans k12
    exact (HC4.out.1.cell (p := ⟨w.heap.size, 0, none⟩) (World.block_lt_of_cell? _ _ e1)).trans e1
  clear HA HB2 CB hlook k12 q02 q12 HB3
  have HOW := hide HC4.out.2
  clear HC4 HS2
  generalize btw (fun a b : Int => a < b) (fa : Int) ((fb : Int) - 1) (hasUp es x es.length) = L at *
  have hLl := HLL.out
  generalize hln : L.length = ln at *
  have HLEN := hide hln
  clear hln
  go_loopw [12, 40] (fun v i wr => ∃ k : Nat, k ≤ ln ∧ i = .int .i64 k ∧ CurE w4 wr v ((L.take k).map (fun i => es.getD i.toNat e0))) (fun _ i _ => ln - (intOf i).toNat)
  case atStart => exact ⟨0, Nat.zero_le _, rfl, Below.refl _ _, World.ownsRow_nil _ _ _ _⟩
  case round =>
    obtain ⟨k, hk, rfl, hcur⟩ := hrel
    have HC := hide hcur
    clear hcur
    by_cases hlt : k < ln
    · obtain ⟨g4, rfl⟩ := own_some HOW.out (by omega)
      obtain ⟨j, hj, hjy⟩ := HLN.out (L.getD k 0) (getDmem (by rw [HLEN.out]; exact hlt))
      have d4 : wr.cell? ⟨g4, k, none⟩ = some (.int .i64 (j : Int)) := by
        have e := own_get HOW.out (j := k) (u := .int .i64 (j : Int)) (by
          rw [List.getElem?_map, List.getElem?_eq_getElem (by rw [HLEN.out]; exact hlt)]
          have : L[k]'(by rw [HLEN.out]; exact hlt) = (j : Int) := by rw [← hjy]; simp [List.getD, HLEN.out, hlt]
          rw [this]; rfl)
        exact (HC.out.1.cell (p := ⟨g4, k, none⟩) (World.block_lt_of_cell? _ _ e)).trans e
      have hSr := HS4.out.below HC.out.1
      have ho := hSr.own
      rw [HN.out] at ho
      obtain ⟨g, rfl⟩ := own_some ho (by omega)
      obtain ⟨q0, _⟩ := cell_of (j := 0) (u := .slice (some ⟨g, 0, none⟩) n c) hSr.blk rfl
      obtain ⟨e0', e1, e2⟩ := own_en ho HN.out hj
      have kr := (HC.out.1.cell (p := ⟨w.heap.size, 0, none⟩) (World.block_lt_of_cell? _ _ k14)).trans k14
      have HTK : Hid ((L.take (k + 1)).map (fun i => es.getD i.toNat e0) = (L.take k).map (fun i => es.getD i.toNat e0) ++ [es.getD j e0]) := by
        show _ = _
        rw [take_snoc (by rw [HLEN.out]; exact hlt) 0, List.map_append, hjy]
        simp
      have hml : ((L.take k).map (fun i => es.getD i.toNat e0)).length = k := by rw [List.length_map, List.length_take, HLEN.out]; omega
      clear hSr ho hjy
      generalize (L.take k).map (fun i => es.getD i.toNat e0) = m at *
      obtain ⟨f, hf⟩ : ∃ f, f = es.getD j e0 := ⟨_, rfl⟩
      rw [← hf] at e0' e1 e2
      have HF := hide hf
      clear hf
      obtain ⟨fs, ft, fx⟩ := f
      simp only at e0' e1 e2
      have hsz4 := HC.out.1.size
      go_wp2_with (first | (at_builtin; refine wpList_append_own _ rfl _ _ 57 rfl w4.heap.size 66 i0 (.agg #[.int .i64 0, .int .i64 0, .string ByteArray.empty]) 3 32 Tryz.underlying57 hi0 hz0 hz1 hz2 rfl (by decide) _ _ _ rfl (HC.out.2.alloc _) ⟨wr.heap.size, 0, none⟩ 1 1 [.int .i64 fs, .int .i64 ft, .string fx] rfl rfl (cell_three_new _ _ _ _ _) (by intro u hu; simp at hu; rcases hu with rfl | rfl | rfl <;> rfl) (by unfold maxLen; omega) (by omega) (by simp; omega) ?_; intro v5 w5 hown5 hgrow5 _; have HC5 := hide (curE_append (e := ⟨fs, ft, fx⟩) HC.out hown5 hgrow5); clear hown5 hgrow5))
      go_roundw
      case rel => exact ⟨k + 1, by omega, by go_num, by rw [HTK.out, ← HF.out]; exact HC5.out⟩
      case measure => simp [intOf]; omega
    · have hke : k = ln := by omega
      subst hke
      have HF : Hid (L.take k = L) := List.take_of_length_le (by rw [HLEN.out]; exact Nat.le_refl _)
      go_wp2
      go_ret
      exact ⟨_, rfl, CurE.pre HB4.out (by have := HC.out; rwa [HF.out, HEQ.out] at this)⟩
end Go.Proofs.YtkncboinfcnklaaGreatDoor

namespace Go.Proofs.YtkncboinfcnklaaGreatDoor
open Go.RowKit Go.Deep Go.Proofs.YtkncboinfcnklaaGreatDoor.Mth

/-- Does an entry have the word, and do the times meet? -/
def mts (es : List Ent) (x : ByteArray) (lo hi : Int) : Bool := es.any (fun e => memD x (wd e.text)) && decide ((es.getD 0 e0).time ≤ hi) && decide (lo ≤ (es.getD (es.length - 1) e0).time)
theorem hasUp_pos (es : List Ent) (x : ByteArray) : decide (0 < (hasUp es x es.length).length) = es.any (fun e => memD x (wd e.text)) := by
  rw [Bool.eq_iff_iff, decide_eq_true_eq, List.any_eq_true]
  unfold hasUp
  rw [List.length_map, List.length_pos_iff_exists_mem]
  constructor
  · rintro ⟨i, hi⟩
    obtain ⟨h1, h2⟩ := List.mem_filter.1 hi
    exact ⟨es.getD i e0, getDmem (by simpa using h1), h2⟩
  · rintro ⟨e, he, hx⟩
    obtain ⟨i, hi, rfl⟩ := List.mem_iff_getElem.1 he
    exact ⟨i, List.mem_filter.2 ⟨by simpa using hi, by rw [show es.getD i e0 = es[i] by simp [List.getD, hi]]; exact hx⟩⟩

set_option maxRecDepth 100000 in
set_option maxHeartbeats 4000000 in
theorem meets_any {w : World} {B s mb : Nat} {es : List Ent} {ev : Value} (h : SegAt w B s es ev mb) (x : ByteArray) (hx : x.size ≤ maxLen) (lo hi : Int) (hl : es.length ≤ 1048576) :
    Calls Tryz.prog 93 #[.pointer (some ⟨s, 0, none⟩), .string x, .int .i64 lo, .int .i64 hi] w fun e w' => e = .returned (.bool (mts es x lo hi)) ∧ Below w.heap.size w w' := by
  obtain ⟨a, c, rfl, hc, hm⟩ := own_slice h.own
  obtain ⟨q0, _⟩ := cell_of (j := 0) (u := .slice a es.length c) h.blk rfl
  obtain ⟨q1, _⟩ := cell_of (j := 1) (u := .map (some mb)) h.blk rfl
  obtain ⟨T, hlook, hT, hup, hlst⟩ := h.idx.look x hx
  obtain ⟨u, hu⟩ := WI.ptr_pointer T
  rw [hu] at hlook
  obtain ⟨W, hW⟩ : ∃ W, W = w.alloc (Obj.cells #[.pointer u] 208) := ⟨_, rfl⟩
  have HB0 : Hid (Below w.heap.size w W) := by rw [hW]; exact below_allocG w _
  have hset : WI.SetAt W w.heap.size T := by
    obtain ⟨d1, d2⟩ := cell_of (j := 0) (u := .pointer u) (new_blk w #[.pointer u] 208) rfl
    rw [hW]
    exact ⟨by rw [hu]; exact d1, d2, InT.below (below_allocG w _) hT, hup⟩
  have CL : Hid (∀ d os, _) := fun d os => Calls.regrown_of (w := W) (d := d) (os := os) ((WI.len_any w.heap.size T (Sort.grow (redrawn W d) os) ⟨(cell_regrown hset.1 d os), by
      have := (below_regrown W d os).frozen (p := ⟨w.heap.size, 0, none⟩) (World.block_lt_of_cell? _ _ hset.1)
      exact this.trans hset.2.1, InT.below (below_regrown W d os) hset.2.2.1, hset.2.2.2⟩).mono fun e w' q => ⟨q.1, by rw [q.2]; exact Below.refl _ _⟩)
  have hh := hasUp_pos es x
  rw [← hlst] at hh
  have hS := h.below HB0.out
  obtain ⟨q0', _⟩ := cell_of (j := 0) (u := .slice a es.length c) hS.blk rfl
  have e0' := cell_regrown q0'
  have hNn : (lst T).length ≤ es.length := by rw [hlst]; unfold hasUp; rw [List.length_map]; exact Nat.le_trans (List.length_filter_le _ _) (by simp)
  have HO := hide hS.own
  unfold maxLen at hm
  generalize hmt : mts es x lo hi = mt
  unfold mts at hmt
  rw [← hh] at hmt
  clear hh hset h hT hup hlst hS q0'
  generalize (lst T).length = N at *
  generalize ht0 : (es.getD 0 e0).time = t0 at *
  generalize ht1 : (es.getD (es.length - 1) e0).time = t1 at *
  have HT0 := hide ht0
  have HT1 := hide ht1
  clear ht0 ht1
  generalize hn : es.length = n at *
  have HN := hide hn
  clear hn
  have HMT := hide hmt
  have HW := hide hW
  clear hmt hW hu
  have HCS : Hid ((N = 0) ∨ (0 < N ∧ decide (t0 ≤ hi) = false) ∨ (0 < N ∧ decide (t0 ≤ hi) = true)) := by
    show _ ∨ _
    cases decide (t0 ≤ hi) <;> simp <;> omega
  rcases HCS.out with hN | ⟨hN, h1⟩ | ⟨hN, h1⟩
  · subst hN
    have HF : Hid (mt = false) := by rw [← HMT.out]; rfl
    clear HMT HCS
    go_enter Tryz.func93, Tryz.ntmps93
    go_wp2_with fail
    rw [← HW.out]
    refine wp_region_quiet_below (by kernel_rfl) (by kernel_rfl) ?_
    repeat (go_big_quiet_step (first | (go_at_call 153; exact CL.out _ _)))
    refine wpQuiet_nil ?_
    intro _ hw'
    obtain ⟨⟨dq, osq⟩, hw''⟩ := hw'
    subst hw''
    go_wp2
    go_ret
    exact ⟨by rw [HF.out]; rfl, HB0.out.trans ((below_regrown W dq osq).mono HB0.out.size)⟩
  all_goals (
    have ho := HO.out
    obtain ⟨g, rfl⟩ := own_some ho (by omega)
    obtain ⟨_, d0, _⟩ := own_en ho HN.out (k := 0) (by omega)
    obtain ⟨_, d1, _⟩ := own_en ho HN.out (k := n - 1) (by omega)
    rw [HT0.out, Nat.zero_mul, Nat.zero_add] at d0
    rw [HT1.out] at d1
    have d0' := cell_regrown d0
    have d1' := cell_regrown d1
    have hcast : (n : Int) - 1 = ((n - 1 : Nat) : Int) := by omega
    have hpos : 0 < n := by omega
    clear ho d0 d1 HO HCS
    go_enter Tryz.func93, Tryz.ntmps93
    go_wp2_with fail
    rw [← HW.out]
    refine wp_region_quiet_below (by kernel_rfl) (by kernel_rfl) ?_
    repeat (go_big_quiet_step (first | (go_at_call 153; exact CL.out _ _)))
    refine wpQuiet_nil ?_
    intro _ hw'
    obtain ⟨⟨dq, osq⟩, hw''⟩ := hw'
    subst hw''
    go_wp2
    go_ret
    refine ⟨?_, HB0.out.trans ((below_regrown W dq osq).mono HB0.out.size)⟩
    rw [← HMT.out, decide_eq_true hN]
    rw [h1]; rfl)
end Go.Proofs.YtkncboinfcnklaaGreatDoor
