import Derived.Test.YtkncboinfcnklaaGreatDoorQ11
import Derived.Laws.EntriesVeiled
import Derived.Test.YtkncboinfcnklaaGreatDoorQ8
import Derived.BigRegion
namespace Go.Proofs.YtkncboinfcnklaaGreatDoor
open Go.RowKit Go.Deep Go.Proofs.YtkncboinfcnklaaGreatDoor.Mth

/-- Does an entry have the word, and do the times meet? -/
def mts (es : List Ent) (x : ByteArray) (lo hi : Int) : Bool := es.any (fun e => memD x (wd e.text)) && decide ((es.getD 0 e0).time ≤ hi) && decide (lo ≤ (es.getD (es.length - 1) e0).time)
theorem hasUp_pos (es : List Ent) (x : ByteArray) : decide (0 < (hasUp es x es.length).length) = es.any (fun e => memD x (wd e.text)) := by
  rw [Bool.eq_iff_iff, decide_eq_true_eq, List.any_eq_true]
  unfold hasUp
  rw [List.length_map, List.length_pos_iff_exists_mem]
  constructor
  · rintro ⟨i, hi⟩
    obtain ⟨h1, h2⟩ := List.mem_filter.1 hi
    exact ⟨es.getD i e0, getDmem (by simpa using h1), h2⟩
  · rintro ⟨e, he, hx⟩
    obtain ⟨i, hi, rfl⟩ := List.mem_iff_getElem.1 he
    exact ⟨i, List.mem_filter.2 ⟨by simpa using hi, by rw [show es.getD i e0 = es[i] by simp [List.getD, hi]]; exact hx⟩⟩

set_option maxRecDepth 100000 in
set_option maxHeartbeats 4000000 in
theorem meets_any {w : World} {B s mb : Nat} {es : List Ent} {ev : Value} (h : SegAt w B s es ev mb) (x : ByteArray) (hx : x.size ≤ maxLen) (lo hi : Int) (hl : es.length ≤ 1048576) :
    Calls Tryz.prog 93 #[.pointer (some ⟨s, 0, none⟩), .string x, .int .i64 lo, .int .i64 hi] w fun e w' => e = .returned (.bool (mts es x lo hi)) ∧ Below w.heap.size w w' := by
  obtain ⟨a, c, rfl, hc, hm⟩ := own_slice h.own
  obtain ⟨q0, _⟩ := cell_of (j := 0) (u := .slice a es.length c) h.blk rfl
  obtain ⟨q1, _⟩ := cell_of (j := 1) (u := .map (some mb)) h.blk rfl
  obtain ⟨T, hlook, hT, hup, hlst⟩ := h.idx.look x hx
  obtain ⟨u, hu⟩ := WI.ptr_pointer T
  rw [hu] at hlook
  obtain ⟨W, hW⟩ : ∃ W, W = w.alloc (Obj.cells #[.pointer u] 208) := ⟨_, rfl⟩
  have HB0 : Hid (Below w.heap.size w W) := by rw [hW]; exact below_allocG w _
  have hset : WI.SetAt W w.heap.size T := by
    obtain ⟨d1, d2⟩ := cell_of (j := 0) (u := .pointer u) (new_blk w #[.pointer u] 208) rfl
    rw [hW]
    exact ⟨by rw [hu]; exact d1, d2, InT.below (below_allocG w _) hT, hup⟩
  have CL : Hid (∀ d os, _) := fun d os => Calls.regrown_of (w := W) (d := d) (os := os) ((WI.len_any w.heap.size T (Sort.grow (redrawn W d) os) ⟨(cell_regrown hset.1 d os), by
      have := (below_regrown W d os).frozen (p := ⟨w.heap.size, 0, none⟩) (World.block_lt_of_cell? _ _ hset.1)
      exact this.trans hset.2.1, InT.below (below_regrown W d os) hset.2.2.1, hset.2.2.2⟩).mono fun e w' q => ⟨q.1, by rw [q.2]; exact Below.refl _ _⟩)
  have hh := hasUp_pos es x
  rw [← hlst] at hh
  have hS := h.below HB0.out
  obtain ⟨q0', _⟩ := cell_of (j := 0) (u := .slice a es.length c) hS.blk rfl
  have e0' := cell_regrown q0'
  have hNn : (lst T).length ≤ es.length := by rw [hlst]; unfold hasUp; rw [List.length_map]; exact Nat.le_trans (List.length_filter_le _ _) (by simp)
  have HO := hide hS.own
  unfold maxLen at hm
  generalize hmt : mts es x lo hi = mt
  unfold mts at hmt
  rw [← hh] at hmt
  clear hh hset h hT hup hlst hS q0'
  generalize (lst T).length = N at *
  generalize ht0 : (es.getD 0 e0).time = t0 at *
  generalize ht1 : (es.getD (es.length - 1) e0).time = t1 at *
  have HT0 := hide ht0
  have HT1 := hide ht1
  clear ht0 ht1
  generalize hn : es.length = n at *
  have HN := hide hn
  clear hn
  have HMT := hide hmt
  have HW := hide hW
  clear hmt hW hu
  have HCS : Hid ((N = 0) ∨ (0 < N ∧ decide (t0 ≤ hi) = false) ∨ (0 < N ∧ decide (t0 ≤ hi) = true)) := by
    show _ ∨ _
    cases decide (t0 ≤ hi) <;> simp <;> omega
  rcases HCS.out with hN | ⟨hN, h1⟩ | ⟨hN, h1⟩
  · subst hN
    have HF : Hid (mt = false) := by rw [← HMT.out]; rfl
    clear HMT HCS
    go_enter Tryz.func93, Tryz.ntmps93
    go_wp2_with fail
    rw [← HW.out]
    refine wp_region_quiet_below (by kernel_rfl) (by kernel_rfl) ?_
    repeat (go_big_quiet_step (first | (go_at_call 153; exact CL.out _ _)))
    refine wpQuiet_nil ?_
    intro _ hw'
    obtain ⟨⟨dq, osq⟩, hw''⟩ := hw'
    subst hw''
    go_wp2
    go_ret
    exact ⟨by rw [HF.out]; rfl, HB0.out.trans ((below_regrown W dq osq).mono HB0.out.size)⟩
  all_goals (
    have ho := HO.out
    obtain ⟨g, rfl⟩ := own_some ho (by omega)
    obtain ⟨_, d0, _⟩ := own_en ho HN.out (k := 0) (by omega)
    obtain ⟨_, d1, _⟩ := own_en ho HN.out (k := n - 1) (by omega)
    rw [HT0.out, Nat.zero_mul, Nat.zero_add] at d0
    rw [HT1.out] at d1
    have d0' := cell_regrown d0
    have d1' := cell_regrown d1
    have hcast : (n : Int) - 1 = ((n - 1 : Nat) : Int) := by omega
    have hpos : 0 < n := by omega
    clear ho d0 d1 HO HCS
    go_enter Tryz.func93, Tryz.ntmps93
    go_wp2_with fail
    rw [← HW.out]
    refine wp_region_quiet_below (by kernel_rfl) (by kernel_rfl) ?_
    repeat (go_big_quiet_step (first | (go_at_call 153; exact CL.out _ _)))
    refine wpQuiet_nil ?_
    intro _ hw'
    obtain ⟨⟨dq, osq⟩, hw''⟩ := hw'
    subst hw''
    go_wp2
    go_ret
    refine ⟨?_, HB0.out.trans ((below_regrown W dq osq).mono HB0.out.size)⟩
    rw [← HMT.out, decide_eq_true hN]
    rw [h1]; rfl)
end Go.Proofs.YtkncboinfcnklaaGreatDoor

namespace Go.Proofs.YtkncboinfcnklaaGreatDoor
open Go.RowKit Go.Deep Go.Proofs.YtkncboinfcnklaaGreatDoor.Mth

theorem results_cellG {fn : Func} {p : Tmp} {ty : TypeId} (h : fn.results = #[.cell p ty]) (tmps : Array Value) (P : Program) (w : World) :
    (results fn tmps).run P w = ((asAddr (tmps.getD p undef)).run P w).andThen fun a w₁ => (loadVar ty a).run P w₁ := by
  simp only [results, h]
  simp [Sem.run_bind, Result.andThen]

theorem hasUp_lt {es : List Ent} {x : ByteArray} {y : Int} (h : y ∈ hasUp es x es.length) : ∃ j : Nat, j < es.length ∧ y = (j : Int) := by
  unfold hasUp at h
  obtain ⟨j, hj, rfl⟩ := List.mem_map.1 h
  exact ⟨j, by simpa using (List.mem_filter.1 hj).1, rfl⟩

theorem Tryz.info142 : (Tryz.prog.info? 142).map (fun i => (i.zero, i.size, i.bytes)) = some (some (.agg #[.int .i64 0, .int .i64 0, .int .i64 0]), 3, 24) := by kernel_rfl

end Go.Proofs.YtkncboinfcnklaaGreatDoor

namespace Go.Proofs.YtkncboinfcnklaaGreatDoor
open Go.RowKit Go.Deep Go.Proofs.YtkncboinfcnklaaGreatDoor.Mth

theorem hasUp_up (es : List Ent) (x : ByteArray) : (hasUp es x es.length).Pairwise (fun a b : Int => a < b) := by
  unfold hasUp
  rw [List.pairwise_map]
  refine List.Pairwise.imp (fun h => by omega) (List.Pairwise.filter _ List.pairwise_lt_range)
end Go.Proofs.YtkncboinfcnklaaGreatDoor

namespace Go.Proofs.YtkncboinfcnklaaGreatDoor
open Go.RowKit Go.Deep Go.Proofs.YtkncboinfcnklaaGreatDoor.Mth

theorem memD_to {α : Type} [DecidableEq α] {x : α} {l : List α} (h : x ∈ l) : memD x l = true := decide_eq_true h
theorem memD_from {α : Type} [DecidableEq α] {x : α} {l : List α} (h : memD x l = true) : x ∈ l := of_decide_eq_true h

/-! ### an entry more: what the index says then -/
theorem hasUp_snoc_old (es : List Ent) (e : Ent) (x : ByteArray) : hasUp (es ++ [e]) x es.length = hasUp es x es.length := by
  unfold hasUp
  congr 1
  apply List.filter_congr
  intro i hi
  have : i < es.length := by simpa using hi
  rw [show (es ++ [e]).getD i e0 = es.getD i e0 by simp [List.getD, List.getElem?_append_left this]]
theorem hasUp_snoc (es : List Ent) (e : Ent) (x : ByteArray) : hasUp (es ++ [e]) x (es ++ [e]).length = if memD x (wd e.text) = true then hasUp es x es.length ++ [(es.length : Int)] else hasUp es x es.length := by
  have hl : (es ++ [e]).length = es.length + 1 := by simp
  have hg : (es ++ [e]).getD es.length e0 = e := by simp [List.getD]
  rw [hl]
  by_cases h : memD x (wd e.text) = true
  · rw [if_pos h, hasUp_yes (by rw [hg]; exact h), hasUp_snoc_old]
  · rw [if_neg h, hasUp_no (by rw [hg]; exact (Bool.not_eq_true _).mp h), hasUp_snoc_old]
theorem rise_ext : ∀ {l m : List Int}, l.Pairwise (fun a b : Int => a < b) → m.Pairwise (fun a b : Int => a < b) → (∀ x, x ∈ l ↔ x ∈ m) → l = m
  | [], [], _, _, _ => rfl
  | [], b :: m, _, _, h => by have := (h b).2 (by simp); cases this
  | a :: l, [], _, _, h => by have := (h a).1 (by simp); cases this
  | a :: l, b :: m, h1, h2, h => by
    rw [List.pairwise_cons] at h1 h2
    have e : a = b := by
      have q1 := (h a).1 (by simp)
      have q2 := (h b).2 (by simp)
      rcases List.mem_cons.1 q1 with q1 | q1
      · exact q1
      · rcases List.mem_cons.1 q2 with q2 | q2
        · exact q2.symm
        · have := h1.1 b q2
          have := h2.1 a q1
          omega
    subst e
    congr 1
    refine rise_ext h1.2 h2.2 fun x => ⟨fun q => ?_, fun q => ?_⟩
    · rcases List.mem_cons.1 ((h x).1 (by simp [q])) with e | e
      · have := h1.1 x q; omega
      · exact e
    · rcases List.mem_cons.1 ((h x).2 (by simp [q])) with e | e
      · have := h2.1 x q; omega
      · exact e
theorem put_snoc {es : List Ent} {x : ByteArray} {S : List Int} (h : Put (fun a b : Int => a < b) (hasUp es x es.length) (es.length : Int) S) : S = hasUp es x es.length ++ [(es.length : Int)] := by
  refine rise_ext h.1 ?_ (fun y => by rw [h.2.1 y]; simp [or_comm])
  rw [List.pairwise_append]
  refine ⟨hasUp_up es x, by simp, fun a ha b hb => ?_⟩
  obtain ⟨j, hj, rfl⟩ := hasUp_lt ha
  simp at hb
  omega
/-- What the index says behind the first k words of an entry more. -/
def idxTo (es : List Ent) (ws : List ByteArray) (k : Nat) (x : ByteArray) : List Int := if memD x (ws.take k) = true then hasUp es x es.length ++ [(es.length : Int)] else hasUp es x es.length
theorem wd_nodup (s : ByteArray) : (wd s).Nodup := by
  refine List.Pairwise.imp ?_ (mergedS_up _).1
  intro a b h e
  subst e
  exact absurd h (List.lt_irrefl _)
theorem idxTo_next {es : List Ent} {ws : List ByteArray} {k : Nat} (hk : k < ws.length) (_hn : ws.Nodup) : (fun y => if y = ws.getD k ⟨#[]⟩ then hasUp es (ws.getD k ⟨#[]⟩) es.length ++ [(es.length : Int)] else idxTo es ws k y) = idxTo es ws (k + 1) := by
  funext y
  unfold idxTo
  rw [take_snoc hk ⟨#[]⟩]
  by_cases h : y = ws.getD k ⟨#[]⟩
  · rw [if_pos h, if_pos (by rw [h]; exact memD_to (by simp)), h]
  · rw [if_neg h]
    by_cases h2 : y ∈ ws.take k
    · rw [if_pos (memD_to h2), if_pos (memD_to (by simp [h2]))]
    · rw [if_neg (fun q => h2 (memD_from q)), if_neg (by
        intro q
        rcases List.mem_append.1 (memD_from q) with q | q
        · exact h2 q
        · exact h (by simpa using q))]
theorem idxTo_this {es : List Ent} {ws : List ByteArray} {k : Nat} (hk : k < ws.length) (hn : ws.Nodup) : idxTo es ws k (ws.getD k ⟨#[]⟩) = hasUp es (ws.getD k ⟨#[]⟩) es.length := by
  unfold idxTo
  rw [if_neg]
  intro q
  obtain ⟨j, hj, e⟩ := List.mem_iff_getElem.1 (memD_from q)
  rw [List.length_take] at hj
  rw [List.getElem_take] at e
  have hk2 : ws.getD k ⟨#[]⟩ = ws[k] := by simp [List.getD, hk]
  rw [hk2] at e
  exact List.pairwise_iff_getElem.1 hn j k (by omega) hk (by omega) e
end Go.Proofs.YtkncboinfcnklaaGreatDoor

namespace Go.Proofs.YtkncboinfcnklaaGreatDoor
open Go.RowKit Go.Deep Go.Proofs.YtkncboinfcnklaaGreatDoor.Mth

theorem idxTo_zero (es : List Ent) (ws : List ByteArray) : idxTo es ws 0 = fun x => hasUp es x es.length := by
  funext x
  unfold idxTo
  rw [if_neg]
  intro q
  have := memD_from q
  simp at this

/-- What a segment is behind an entry more. -/
structure SegStp (w w' : World) (B s mb : Nat) (ev : Value) (es' : List Ent) (ev' : Value) : Prop where
  seg : SegAt w' B s es' ev' mb
  tch : Tch (ownS s mb ev) w w'
  new : ∀ g, some g = ev'.ownBlock → some g = ev.ownBlock ∨ w.heap.size ≤ g

/-- In the midst of add: only the map has been written. -/
structure AddIn (w2 wr : World) (B s mb : Nat) (es : List Ent) (ev : Value) (ws : List ByteArray) (k : Nat) : Prop where
  tch : Tch (fun g => g = mb) w2 wr
  blk : wr.heap[s]? = some (Obj.cells #[ev, .map (some mb)] 198 (0, 0))
  own : wr.ownsRow B 66 3 ev es.length (es.flatMap eC)
  idx : Idx wr mb (es.length * 64 + k) (idxTo es ws k)

theorem below_tch {S : Nat → Prop} {w w' : World} {B : Nat} {W0 : World} (hb : Below B W0 w) (h : Tch S w w') (hS : ∀ k, S k → B ≤ k) (hB : B ≤ w.heap.size) : Below B W0 w' :=
  ⟨h.os.trans hb.os, h.tape.trans hb.tape, h.output.trans hb.output, Nat.le_trans hb.size h.size, fun k hk => (h.block k (by omega) (fun q => by have := hS k q; omega)).trans (hb.block k hk)⟩

/-- The entry itself comes behind the others. -/
theorem seg_fin {w w2 wr W5 : World} {B s mb k : Nat} {es : List Ent} {ev v5 : Value} {ws : List ByteArray} {e : Ent} {o : Obj} (h : AddIn w2 wr B s mb es ev ws k) (hg : B ≤ s ∧ B ≤ mb) (hk : k ≤ 64) (hb : Below w.heap.size w w2) (hf : idxTo es ws k = fun x => hasUp (es ++ [e]) x (es ++ [e]).length)
    (o5 : W5.ownsRow B 66 3 v5 (es.length + 1) (es.flatMap eC ++ eC e)) (g6 : (wr.alloc o).grownBy W5 ev.ownBlock) (n5 : v5.ownBlock = ev.ownBlock ∨ v5.ownBlock = some (wr.alloc o).heap.size) :
    SegStp w (W5.setCell ⟨s, 0, none⟩ v5) B s mb ev (es ++ [e]) v5 := by
  have hsr : some s ≠ ev.ownBlock := fun q => by
    obtain ⟨_, _, D, hD⟩ := own_block h.own q
    rw [h.blk] at hD
    injection hD with hD
    injection hD with _ hD _
    exact absurd hD (by decide)
  have hmr : some mb ≠ ev.ownBlock := fun q => by
    obtain ⟨_, _, D, hD⟩ := own_block h.own q
    obtain ⟨es', c', hm'⟩ := h.idx.notCells
    rw [hm'] at hD
    cases hD
  have hms : mb ≠ s := fun q => by
    obtain ⟨es', c', hm'⟩ := h.idx.notCells
    rw [q, h.blk] at hm'
    cases hm'
  have hbs := beside g6 h.blk hsr
  have hsz := h.tch.size
  have hsz5 : wr.heap.size ≤ W5.heap.size := by have := g6.size; simp at this; omega
  have hfar : ∀ g, g < wr.heap.size → some g ≠ ev.ownBlock → g ≠ s → (W5.setCell ⟨s, 0, none⟩ v5).heap[g]? = wr.heap[g]? := fun g hg h1 h2 => by
    rw [set_other h2, g6.block g (by simp; omega) h1, _root_.Go.heap_alloc_old wr o (r := g) hg]
  refine ⟨⟨?_, ?_, ?_, hg⟩, ⟨g6.os.trans (h.tch.os.trans hb.os), g6.tape.trans (h.tch.tape.trans hb.tape), g6.output.trans (h.tch.output.trans hb.output), ?_, fun g hg hn => ?_⟩, fun g hg => ?_⟩
  · simp [World.setCell, Array.getElem?_modify, hbs]
  · refine own_set_other ?_ hbs (by decide)
    simpa [List.flatMap_append] using o5
  · have hi : Idx (W5.setCell ⟨s, 0, none⟩ v5) mb (es.length * 64 + k) (idxTo es ws k) := h.idx.same (hfar mb h.idx.lt hmr hms) (fun g hgn => hfar g (isN_lt hgn) (fun q => by
        obtain ⟨_, _, D, hD⟩ := own_block h.own q
        obtain ⟨C, fr, hC⟩ := hgn
        rw [hC] at hD
        injection hD with hD
        injection hD with _ hD _
        exact absurd hD (by decide)) (fun q => by
        obtain ⟨C, fr, hC⟩ := hgn
        rw [q, h.blk] at hC
        injection hC with hC
        injection hC with _ hC _
        exact absurd hC (by decide)))
    rw [hf] at hi
    refine hi.mono ?_
    rw [List.length_append, List.length_singleton]
    omega
  · have := hb.size
    simp
    omega
  · have hgw2 : g < w2.heap.size := Nat.lt_of_lt_of_le hg hb.size
    have n1 : g ≠ s := fun q => hn (Or.inl q)
    have n2 : some g ≠ ev.ownBlock := fun q => hn (Or.inr (Or.inl q))
    have n3 : g ≠ mb := fun q => hn (Or.inr (Or.inr q))
    exact (hfar g (by omega) n2 n1).trans ((h.tch.block g hgw2 n3).trans (hb.block g hg))
  · rcases n5 with q | q
    · rw [q] at hg; exact Or.inl hg
    · rw [q] at hg
      injection hg with hg
      have := hb.size
      right
      rw [hg]
      simp
      omega

set_option maxRecDepth 100000 in
set_option maxHeartbeats 4000000 in
theorem addSeg_any {w : World} {B s mb : Nat} {es : List Ent} {ev : Value} (h : SegAt w B s es ev mb) (hB : B ≤ w.heap.size) (ht : Tab w) (e : Ent) (hx : e.text.size ≤ 60) (hl : es.length ≤ 1048576) :
    Calls Tryz.prog 62 #[.pointer (some ⟨s, 0, none⟩), eV e] w fun r w' => r = .returned (.tuple #[]) ∧ ∃ ev', SegStp w w' B s mb ev (es ++ [e]) ev' := by
  obtain ⟨i0, hi0, hz0, hz1, hz2⟩ := info_parts Tryz.info66
  obtain ⟨a, c, rfl, hc, hm⟩ := own_slice h.own
  unfold maxLen at hm
  have HS := hide h
  obtain ⟨sq, tm, tx⟩ := e
  simp only at hx
  have hb0 := below_allocG w (Obj.cells #[.int .i64 sq, .int .i64 tm, .string tx] 66)
  have hbk := new_blk w #[.int .i64 sq, .int .i64 tm, .string tx] 66
  have CW := hide (words_all tx _ (ht.below hb0 (Nat.le_refl _)) (by omega))
  have HB0 := hide hb0
  have HBK := hide hbk
  have hwl := wd_len tx
  have hws : ∀ x ∈ wd tx, x.size ≤ 60 := fun x h => Nat.le_trans (wd_size tx h) hx
  have hnd := wd_nodup tx
  have HFIN : Hid (idxTo es (wd tx) (wd tx).length = fun x => hasUp (es ++ [(⟨sq, tm, tx⟩ : Ent)]) x (es ++ [(⟨sq, tm, tx⟩ : Ent)]).length) := by
    show _ = _
    funext x
    rw [hasUp_snoc]
    unfold idxTo
    rw [List.take_length]
  clear hb0 hbk h ht
  go_enter Tryz.func62, Tryz.ntmps62
  go_wp2_with (first | (go_at_call 100; refine CW.out.mono ?_; rintro e w2 ⟨v2, rfl, hc2⟩; obtain ⟨a2, c2, rfl, hc2c, hc2m⟩ := own_slice hc2.2; have HC2 := hide hc2; clear hc2))
  have HB2 : Hid (Below w.heap.size w w2) := HB0.out.trans (HC2.out.1.mono HB0.out.size)
  have HBK2 : Hid (w2.heap[w.heap.size]? = some (Obj.cells #[.int .i64 sq, .int .i64 tm, .string tx] 66 (0, 0))) := (HC2.out.1.block w.heap.size (by simp)).trans HBK.out
  have HS2 := hide (HS.out.below HB2.out)
  have HO2 := hide HC2.out.2
  have hB2 : B ≤ w2.heap.size := Nat.le_trans hB HB2.out.size
  have hnb2 : w.heap.size < w2.heap.size := (Array.getElem?_eq_some_iff.1 HBK2.out).1
  have hmbw := HS.out.idx.lt
  have hmbn := HS2.out.idx.notCells
  have hsw : s < w.heap.size := (Array.getElem?_eq_some_iff.1 HS.out.blk).1
  clear CW HB0 HBK HC2
  unfold maxLen at hc2m
  generalize hln : es.length = n at *
  have HN := hide hln
  clear hln
  generalize hwsl : wd tx = ws at *
  have HWS := hide hwsl
  clear hwsl
  generalize hwl2 : ws.length = ln at *
  have HLN := hide hwl2
  clear hwl2
  have HND := hide hnd
  have HWZ := hide hws
  clear hnd hws
  go_loopw [11] (fun i wr => ∃ k : Nat, k ≤ ln ∧ i = .int .i64 k ∧ AddIn w2 wr B s mb es (.slice a n c) ws k) (fun i _ => ln - (intOf i).toNat)
  case atStart => exact ⟨0, Nat.zero_le _, rfl, Tch.refl _ _, HS2.out.blk, by have := HS2.out.own; rwa [HN.out] at this ⊢, by
      have := HS2.out.idx
      rw [idxTo_zero, HN.out]
      rwa [HN.out] at this⟩
  case round =>
    obtain ⟨k, hk, rfl, hA⟩ := hrel
    have HA := hide hA
    clear hA
    by_cases hlt : k < ln
    · obtain ⟨g2, rfl⟩ := own_some HO2.out (by omega)
      have hkw : k < ws.length := by rw [HLN.out]; exact hlt
      have hxz : (ws.getD k ⟨#[]⟩).size ≤ 60 := HWZ.out _ (getDmem hkw)
      have hg2 := (own_block HO2.out (g := g2) rfl)
      have hg2m : g2 ≠ mb := fun q => by
        obtain ⟨_, _, D, hD⟩ := hg2
        obtain ⟨es', c', hm'⟩ := hmbn
        rw [q, hm'] at hD
        cases hD
      have d2 : wr.cell? ⟨g2, k, none⟩ = some (.string (ws.getD k ⟨#[]⟩)) := by
        have e := own_get HO2.out (j := k) (u := .string (ws.getD k ⟨#[]⟩)) (by
          rw [List.getElem?_map, List.getElem?_eq_getElem hkw]
          simp [List.getD, hkw, eS])
        exact (World.cell?_of_block (w := w2) (a := ⟨g2, k, none⟩) (HA.out.tch.block g2 hg2.2.1 hg2m)).trans e
      obtain ⟨q0, _⟩ := cell_of (j := 0) (u := .slice a n c) HA.out.blk rfl
      obtain ⟨q1, _⟩ := cell_of (j := 1) (u := .map (some mb)) HA.out.blk rfl
      obtain ⟨T, hlook, hT, hup, hlst⟩ := HA.out.idx.look (ws.getD k ⟨#[]⟩) (by unfold maxLen; omega)
      rw [idxTo_this hkw HND.out] at hlst
      have HNX := hide (idxTo_next (es := es) hkw HND.out)
      obtain ⟨u, hu⟩ := WI.ptr_pointer T
      rw [hu] at hlook
      have hset : WI.SetAt (wr.alloc (Obj.cells #[.pointer u] 208)) wr.heap.size T := by
        obtain ⟨d1, d2⟩ := cell_of (j := 0) (u := .pointer u) (new_blk wr #[.pointer u] 208) rfl
        exact ⟨by rw [hu]; exact d1, d2, InT.below (below_allocG wr _) hT, hup⟩
      have hlen : (lst T).length ≤ n := by rw [hlst, HN.out]; exact hasUp_len _ _ _
      have CA := hide (WI.add_any wr.heap.size T (n : Int) _ hset (by omega))
      have HLST := hide hlst
      have q0' := ((below_allocG wr (Obj.cells #[.pointer u] 208)).cell (p := ⟨s, 0, none⟩) (World.block_lt_of_cell? _ _ q0)).trans q0
      have hswr : s < wr.heap.size := (Array.getElem?_eq_some_iff.1 HA.out.blk).1
      clear hset hlen hT hup hlst hg2 hu
      generalize hxx : ws.getD k ⟨#[]⟩ = x at *
      have HXX := hide hxx
      clear hxx
      go_wp2_with (first | (go_at_call 101; refine CA.out.mono ?_; rintro e w4 ⟨rfl, T4, hset4, hgr4, _, hput4, hty4⟩; have HSET4 := hide hset4; have HGR4 := hide hgr4; have HPUT4 := hide hput4; have hb4 : w4.heap[s]? = some (Obj.cells #[.slice a n c, .map (some mb)] 198 (0, 0)) := (hgr4.block s (by simp; omega) (by simp; omega)).trans (old_blk _ HA.out.blk); have r0 := (cell_of (j := 1) (u := .map (some mb)) hb4 rfl).1; clear hset4 hgr4 hput4 hty4))
      have hnin : ¬ (n : Int) ∈ lst T := by
        rw [HLST.out]
        intro q
        obtain ⟨j, hj, e⟩ := hasUp_lt q
        rw [HN.out] at hj
        omega
      have hlst4 : lst T4 = hasUp es x es.length ++ [(es.length : Int)] := by
        have := HPUT4.out hnin
        rw [HLST.out, ← HN.out] at this
        exact put_snoc this
      have hb4 : w4.heap[s]? = some (Obj.cells #[.slice a n c, .map (some mb)] 198 (0, 0)) := (HGR4.out.block s (by simp; omega) (by simp; omega)).trans (old_blk _ HA.out.blk)
      have hsame : ∀ g, g < wr.heap.size → w4.heap[g]? = wr.heap[g]? := fun g hg => (HGR4.out.block g (by simp; omega) (by simp; omega)).trans (by
        show (wr.heap.push _)[g]? = _
        rw [Array.getElem?_push, if_neg (by omega)])
      have hmbr : mb < wr.heap.size := HA.out.idx.lt
      have hidx4 : Idx w4.drew mb (n * 64 + k) (idxTo es ws k) := by
        have := HA.out.idx.same (w' := w4.drew) (hsame mb hmbr) (fun g hg => hsame g (isN_lt hg))
        rwa [HN.out] at this
      obtain ⟨u4, hu4⟩ := WI.ptr_pointer T4
      obtain ⟨w5, hrun5, hidx5, hgr5⟩ := hidx4.put x (by unfold maxLen; omega) (by unfold maxLen; omega) T4 (InT.drewN (w := w4) (w' := w4.drew) rfl HSET4.out.2.2.1) HSET4.out.2.2.2
      rw [hu4] at hrun5
      have r1 : w4.cell? ⟨wr.heap.size, 0, none⟩ = some (.pointer u4) := by rw [← hu4]; exact HSET4.out.1
      have HI5 : Hid (AddIn w2 w5 B s mb es (.slice a n c) ws (k + 1)) := by
        have hsz4 : wr.heap.size ≤ w4.heap.size := by have := HGR4.out.size; simp at this; omega
        have hsne : s ≠ mb := fun q => by
          obtain ⟨es', c', hm'⟩ := hidx4.notCells
          rw [← q] at hm'
          have : w4.heap[s]? = _ := hm'
          rw [hb4] at this
          cases this
        have hw45 : ∀ g, g < wr.heap.size → g ≠ mb → w5.heap[g]? = wr.heap[g]? := fun g hg hne => (hgr5.block g (by show g < w4.heap.size; omega) (fun q => hne (by injection q))).trans (hsame g hg)
        refine ⟨⟨hgr5.os.trans (HGR4.out.os.trans HA.out.tch.os), hgr5.tape.trans (HGR4.out.tape.trans HA.out.tch.tape), hgr5.output.trans (HGR4.out.output.trans HA.out.tch.output), ?_, fun g hg hne => ?_⟩, (hw45 s hswr hsne).trans HA.out.blk, ?_, ?_⟩
        · have := hgr5.size
          have h3 := HA.out.tch.size
          have : w4.heap.size ≤ w5.heap.size := this
          omega
        · exact (hw45 g (Nat.lt_of_lt_of_le hg HA.out.tch.size) hne).trans (HA.out.tch.block g hg hne)
        · refine own_same HA.out.own (fun g hg => hw45 g (own_block HA.out.own hg).2.1 (fun q => ?_))
          obtain ⟨_, _, D, hD⟩ := own_block HA.out.own hg
          obtain ⟨es', c', hm'⟩ := HA.out.idx.notCells
          rw [q, hm'] at hD
          cases hD
        · have e := HNX.out
          rw [← e, ← Nat.add_assoc, HN.out]
          rw [hlst4] at hidx5
          rw [HN.out] at hidx5
          exact hidx5
      clear hnin hlst4 hb4 hsame hidx4 hidx5 hgr5
      go_region
      go_wp2
      go_roundw
      case rel => exact ⟨k + 1, by omega, by go_num, HI5.out⟩
      case measure => simp [intOf]; omega
    · have hke : k = ln := by omega
      subst hke
      have hbkr : wr.heap[w.heap.size]? = some (Obj.cells #[.int .i64 sq, .int .i64 tm, .string tx] 66 (0, 0)) := (HA.out.tch.block w.heap.size hnb2 (by omega)).trans HBK2.out
      obtain ⟨c0, f0⟩ := cell_of (j := 0) (u := .slice a n c) HA.out.blk rfl
      obtain ⟨b0, _⟩ := cell_of (j := 0) (u := .int .i64 sq) hbkr rfl
      obtain ⟨b1, _⟩ := cell_of (j := 1) (u := .int .i64 tm) hbkr rfl
      obtain ⟨b2, _⟩ := cell_of (j := 2) (u := .string tx) hbkr rfl
      have hown := HA.out.own
      rw [HN.out] at hown
      have HOW := hide hown
      have hBr : B ≤ wr.heap.size := Nat.le_trans hB2 HA.out.tch.size
      have hsr : Hid (some s ≠ (Value.slice a n c).ownBlock) := fun q => by
        obtain ⟨_, _, D, hD⟩ := own_block HOW.out q
        rw [HA.out.blk] at hD
        injection hD with hD
        injection hD with _ hD _
        exact absurd hD (by decide)
      have c1 := ((below_allocG wr (Obj.cells #[.int .i64 sq, .int .i64 tm, .string tx] 66)).cell (p := ⟨s, 0, none⟩) (World.block_lt_of_cell? _ _ c0)).trans c0
      clear hown hbkr
      go_wp2_with fail
      go_region_law (refine step_own_at _ rfl _ _ 57 rfl B 66 i0 (.agg #[.int .i64 0, .int .i64 0, .string ByteArray.empty]) 3 32 Tryz.underlying57 hi0 hz0 hz1 hz2 rfl (by decide) _ _ _ rfl (by exact HOW.out.alloc _) ⟨wr.heap.size, 0, none⟩ 1 1 [.int .i64 sq, .int .i64 tm, .string tx] rfl rfl (by exact cell_three_new wr.drew _ _ _ _) (by intro u hu; simp at hu; rcases hu with rfl | rfl | rfl <;> rfl) (by unfold maxLen; omega) (by omega) (by simp; omega) ?_; intro v5 W5 o5 g5 n5; obtain ⟨a5, c5, rfl, _, _⟩ := own_slice o5; have g6 : (wr.alloc (Obj.cells #[.int .i64 sq, .int .i64 tm, .string tx] 66)).grownBy W5 (Value.slice a n c).ownBlock := ⟨g5.os, g5.tape, g5.output, g5.size, g5.block⟩; obtain ⟨fb, ff⟩ := cell_of (j := 0) (u := .slice a n c) (beside g6 HA.out.blk hsr.out) rfl; have KS := hide (seg_fin (w := w) (e := ⟨sq, tm, tx⟩) HA.out HS.out.ge (by omega) HB2.out HFIN.out (by rw [HN.out]; exact o5) g6 n5); clear o5 g5 g6 n5)
      all_goals (
        go_wp2
        go_end0
        exact ⟨rfl, _, by rw [HN.out]; exact KS.out⟩)
end Go.Proofs.YtkncboinfcnklaaGreatDoor

namespace Go.Proofs.YtkncboinfcnklaaGreatDoor
open Go.RowKit Go.Deep Go.Proofs.YtkncboinfcnklaaGreatDoor.Mth

theorem rdE_nil (w : World) : RdE w (.slice none 0 0) [] := ⟨none, 0, rfl, Nat.le_refl _, by unfold maxLen; omega, Or.inl rfl⟩

/-- A segment whose blocks are all new. -/
structure NewSeg (w w' : World) (B s : Nat) (es : List Ent) (ev : Value) (mb : Nat) : Prop where
  seg : SegAt w' B s es ev mb
  bel : Below w.heap.size w w'
  new : ∀ g, ownS s mb ev g → w.heap.size ≤ g

theorem NewSeg.more {w w1 w2 : World} {B s mb : Nat} {es es' : List Ent} {ev ev' : Value} (h : NewSeg w w1 B s es ev mb) (h2 : SegStp w1 w2 B s mb ev es' ev') : NewSeg w w2 B s es' ev' mb := by
  refine ⟨h2.seg, below_tch h.bel h2.tch h.new h.bel.size, fun g hg => ?_⟩
  rcases hg with q | q | q
  · exact h.new g (Or.inl q)
  · rcases h2.new g q with q | q
    · exact h.new g (Or.inr (Or.inl q))
    · exact Nat.le_trans h.bel.size q
  · exact h.new g (Or.inr (Or.inr q))

set_option maxRecDepth 100000 in
set_option maxHeartbeats 4000000 in
theorem newSeg_any (w : World) (B : Nat) (hB : B ≤ w.heap.size) (ht : Tab w) {v : Value} {es : List Ent} (hv : RdE w v es) (hx : ∀ e ∈ es, e.text.size ≤ 60) (hl : es.length ≤ 1048576) :
    Calls Tryz.prog 60 #[v] w fun r w' => ∃ s mb ev, r = .returned (.pointer (some ⟨s, 0, none⟩)) ∧ NewSeg w w' B s es ev mb := by
  have hmm := @run_makeMap Tryz.prog
  obtain ⟨a, c, rfl, hc, hm⟩ := rdE_len hv
  unfold maxLen at hm
  obtain ⟨W, hW⟩ : ∃ W, W = (w.alloc (Obj.map #[] 0)).alloc (Obj.cells #[.slice none 0 0, .map (some w.heap.size)] 198) := ⟨_, rfl⟩
  have HNS : Hid (NewSeg w W B (w.heap.size + 1) [] (.slice none 0 0) w.heap.size) := by
    have b1 := below_allocG w (Obj.map #[] 0)
    have b2 := below_allocG (w.alloc (Obj.map #[] 0)) (Obj.cells #[.slice none 0 0, .map (some w.heap.size)] 198)
    refine ⟨⟨?_, World.ownsRow_nil _ _ _ _, ?_, by omega, hB⟩, by rw [hW]; exact b1.trans (b2.mono b1.size), fun g hg => ?_⟩
    · have := new_blk (w.alloc (Obj.map #[] 0)) #[.slice none 0 0, .map (some w.heap.size)] 198
      rw [World.size_alloc] at this
      rw [hW]
      exact this
    · rw [hW]
      exact (Idx.made w 0).same (b2.block _ (by simp)) (fun g hg => b2.block _ (isN_lt hg))
    · rcases hg with q | q | q
      · omega
      · simp [Value.ownBlock] at q
      · omega
  have HV := hide hv
  have HX := hide hx
  have HT := hide ht
  have HW := hide hW
  clear hv hx ht hW
  generalize hn : es.length = n at *
  have HN := hide hn
  clear hn
  go_enter Tryz.func60, Tryz.ntmps60
  go_wp2_with fail
  rw [← HW.out]
  clear hmm
  go_loopw [11] (fun i wr => ∃ k : Nat, k ≤ n ∧ i = .int .i64 k ∧ ∃ ev, NewSeg w wr B (w.heap.size + 1) (es.take k) ev w.heap.size) (fun i _ => n - (intOf i).toNat)
  case atStart => exact ⟨0, Nat.zero_le _, rfl, _, HNS.out⟩
  case round =>
    obtain ⟨k, hk, rfl, ev, hNS⟩ := hrel
    have HNS2 := hide hNS
    clear hNS
    by_cases hlt : k < n
    · obtain ⟨b, o, rfl, hblt, d0, d1, d2⟩ := rdE_at (HV.out.below HNS2.out.bel) k (by rw [HN.out]; exact hlt)
      have HTK := hide (take_snoc (by rw [HN.out]; exact hlt : k < es.length) e0)
      have htx : (es.getD k e0).text.size ≤ 60 := HX.out _ (getDmem (by rw [HN.out]; exact hlt))
      have hlen : (es.take k).length ≤ 1048576 := by rw [List.length_take]; omega
      obtain ⟨f, hf⟩ : ∃ f, f = es.getD k e0 := ⟨_, rfl⟩
      rw [← hf] at d0 d1 d2 htx
      have HTK2 : Hid (es.take (k + 1) = es.take k ++ [f]) := by rw [hf]; exact HTK.out
      clear HTK hf
      obtain ⟨fs, ft, fx⟩ := f
      simp only at d0 d1 d2 htx
      have hb0 := below_allocG wr (Obj.cells #[.int .i64 fs, .int .i64 ft, .string fx] 66)
      have hBw := HNS2.out.bel
      have CA := hide (addSeg_any (HNS2.out.seg.below hb0) (by have := hBw.size; simp; omega) ((HT.out.below hBw (Nat.le_refl _)).below hb0 (Nat.le_refl _)) ⟨fs, ft, fx⟩ htx hlen)
      have HB0 := hide hb0
      clear hb0 hBw
      go_wp2_with (first | (go_at_call 62; refine CA.out.mono ?_; rintro e w4 ⟨rfl, ev4, hs4⟩; have HS4 := hide hs4; clear hs4))
      have HNS3 : Hid (NewSeg w w4 B (w.heap.size + 1) (es.take (k + 1)) ev4 w.heap.size) := by
        rw [HTK2.out]
        have h0 : NewSeg w (wr.alloc (Obj.cells #[.int .i64 fs, .int .i64 ft, .string fx] 66)) B (w.heap.size + 1) (es.take k) ev w.heap.size := ⟨HNS2.out.seg.below HB0.out, HNS2.out.bel.trans (HB0.out.mono HNS2.out.bel.size), HNS2.out.new⟩
        exact h0.more HS4.out
      go_roundw
      case rel => exact ⟨k + 1, by omega, by go_num, ev4, HNS3.out⟩
      case measure => simp [intOf]; omega
    · have hke : k = n := by omega
      subst hke
      have HF : Hid (es.take k = es) := List.take_of_length_le (by rw [HN.out]; exact Nat.le_refl _)
      go_wp2
      go_ret
      exact ⟨_, _, ev, rfl, by have := HNS2.out; rwa [HF.out] at this⟩
end Go.Proofs.YtkncboinfcnklaaGreatDoor

namespace Go.Proofs.YtkncboinfcnklaaGreatDoor
open Go.RowKit Go.Deep Go.Proofs.YtkncboinfcnklaaGreatDoor.Mth

set_option maxRecDepth 100000 in
set_option maxHeartbeats 4000000 in
theorem apiSync_yes {w : World} {B b d : Nat} {fs : List Fl} {left : Int} {fv : Value} (h : St 100 109 w B b fs left fv) (hp : Ptr 102 w d b) (h1 : -1 ≤ left) (h2 : left < 9223372036854775808) (q : left ≠ 0) (x : ByteArray) (r : Int) (hr : At fs x r) :
    Calls Tryz.prog 33 #[.pointer (some ⟨d, 0, none⟩), .string x] w fun e w' => e = .returned (.bool true) ∧ ∃ fv', Stp 100 109 B b w w' fv (aSync fs r) (decL left) fv' := by
  have CS := hide (apiStep_any h h1 h2)
  rw [decide_eq_true q] at CS
  obtain ⟨p0, _⟩ := cell_of (j := 0) (u := .pointer (some ⟨b, 0, none⟩)) hp rfl
  have HR := hide hr
  have HP := hide hp
  have HS := hide h
  generalize decL left = l1 at *
  generalize hfs : aSync fs r = fs' at *
  have HFS := hide hfs
  clear h h1 h2 q hfs hr hp
  go_enter Tryz.func33, Tryz.ntmps33
  go_wp2_with fail
  refine CS.out.mono ?_
  rintro e w1 ⟨rfl, hs⟩
  have HT := hide hs
  have HP1 := hide (HP.out.keep HS.out hs.tch (by decide) (by decide))
  have CF := hide (find_any hs.st x)
  obtain ⟨p1, _⟩ := cell_of (j := 0) (u := .pointer (some ⟨b, 0, none⟩)) HP1.out rfl
  clear hs CS p0 HP HS
  go_wp2_with fail
  refine CF.out.mono ?_
  rintro e w2 ⟨r', rfl, hr, rfl⟩
  have hrr := at_one HR.out hr
  subst hrr
  clear CF
  obtain ⟨a, c, rfl, hc, hm⟩ := own_slice HT.out.st.own
  unfold maxLen at hm
  obtain ⟨c0, f0⟩ := cell_of (j := 0) (u := .slice a fs.length c) HT.out.st.blk rfl
  rcases hr with ⟨rfl, _⟩ | ⟨i, hi, rfl, _, _⟩
  · have HFR : Hid (fs' = fs) := HFS.out.symm
    go_wp2
    go_ret
    exact ⟨rfl, _, by rw [HFR.out]; exact HT.out⟩
  · have HFR : Hid (fs' = setS fs i (fs.getD i fl0).data.size) := by
      show _ = _
      rw [← HFS.out]
      unfold aSync
      rw [if_neg (by omega), Int.toNat_natCast]
    have HTD := hide (HT.out.below (drewB w2))
    have hown := HTD.out.st.own
    obtain ⟨g, rfl⟩ := own_some hown (by omega)
    obtain ⟨_, e3, _⟩ := own_fl (k := i) hown rfl hi
    obtain ⟨⟨y2, e4⟩, hfr⟩ := own_at (i := i * 3 + 2) hown (by omega)
    obtain ⟨q1, _⟩ := cell_of (j := 0) (u := .pointer (some ⟨b, 0, none⟩)) (HP1.out.below (drewB w2)) rfl
    obtain ⟨q0, _⟩ := cell_of (j := 0) (u := .slice (some ⟨g, 0, none⟩) fs.length c) HTD.out.st.blk rfl
    generalize hdt : (fs.getD i fl0).data = dt at *
    have ST2 := hide (HTD.out.st.store (i := i * 3 + 2) (y := .int .i64 (dt.size : Int)) (fs' := setS fs i dt.size) (by decide) rfl (by omega) (by simp [setS]) (fC_set2 dt.size hi))
    clear hdt hown
    generalize hn : fs.length = n at *
    have HN := hide hn
    clear hn
    go_wp2_with fail
    go_region
    all_goals (go_wp2; go_ret; exact ⟨rfl, _, by rw [HFR.out]; first | exact HTD.out.trans ST2.out | (rw [HN.out]; exact HTD.out.trans ST2.out)⟩)
end Go.Proofs.YtkncboinfcnklaaGreatDoor
