import Derived.Test.YtkncboinfcnklaaGreatDoorL8
namespace Go.Proofs.YtkncboinfcnklaaGreatDoor
open Go.RowKit Go.Deep Go.Proofs.YtkncboinfcnklaaGreatDoor.Mth

theorem equalIn_nil {P : Program} (w : World) (d : Nat) (t e : TypeId) (a : Option Addr) (n c n' c' : Nat) (h : P.underlying t = some (.slice e)) :
    (Op.equalIn (d + 1) t (.slice a n c) (.slice none n' c')).run P w = .ok a.isNone w := by
  cases a <;> simp [Op.equalIn, run_underlying h]
theorem eql_nil {P : Program} (w : World) (t e : TypeId) (a : Option Addr) (n c n' c' : Nat) (h : P.underlying t = some (.slice e)) :
    (binOp .eql t (.slice a n c) (.slice none n' c')).run P w = .ok (.bool a.isNone) w := by
  simp only [binOp]
  simp [Op.equal, Op.maxDepth, equalIn_nil w 9999 t e a n c n' c' h]

set_option maxHeartbeats 400000 in
theorem lentE_nil (n c : Nat) (w : World) :
    Calls Tryz.prog 112 #[.slice none n c] w fun e w' => e = .returned (.slice none 0 0) ∧ w' = w := by
  have hnil : (binOp .eql 57 (.slice none n c) (.slice none 0 0)).run Tryz.prog w = .ok (.bool true) w := eql_nil w 57 66 none n c 0 0 Tryz.underlying57
  go_enter Tryz.func112, Tryz.ntmps112
  go_wp2
  go_ret
  exact ⟨rfl, rfl⟩

theorem eC_at {l : List Ent} {j : Nat} (h : j < l.length) : (l.flatMap eC)[j * 3]? = some (.int .i64 (l.getD j e0).seq) ∧ (l.flatMap eC)[j * 3 + 1]? = some (.int .i64 (l.getD j e0).time) ∧ (l.flatMap eC)[j * 3 + 2]? = some (.string (l.getD j e0).text) := by
  induction l generalizing j with
  | nil => simp at h
  | cons e l ih =>
    rw [List.flatMap_cons]
    cases j with
    | zero => exact ⟨rfl, rfl, rfl⟩
    | succ j =>
      have := ih (j := j) (by simpa using h)
      have e1 : (e :: l).getD (j + 1) e0 = l.getD j e0 := rfl
      rw [e1]
      refine ⟨?_, ?_, ?_⟩
      · rw [List.getElem?_append_right (by simp [eC]; omega), show (j + 1) * 3 - (eC e).length = j * 3 by simp [eC]; omega]; exact this.1
      · rw [List.getElem?_append_right (by simp [eC]; omega), show (j + 1) * 3 + 1 - (eC e).length = j * 3 + 1 by simp [eC]; omega]; exact this.2.1
      · rw [List.getElem?_append_right (by simp [eC]; omega), show (j + 1) * 3 + 2 - (eC e).length = j * 3 + 2 by simp [eC]; omega]; exact this.2.2

theorem eC_one (l : List Ent) : ∀ v ∈ l.flatMap eC, v.oneCell' = true := by
  intro v hv
  obtain ⟨e, _, h⟩ := List.mem_flatMap.1 hv
  simp [eC] at h
  rcases h with rfl | rfl | rfl <;> rfl

/-- The cells of entries that came in. -/
theorem eC_src {w : World} {ad : Addr} {c : Nat} {l : List Ent} (h : RdE w (.slice (some ad) l.length c) l) : ∀ j v, (l.flatMap eC)[j]? = some v → w.cell? (ad.add j) = some v := by
  intro j v hv
  have hj : j < l.length * 3 := by
    have := (List.getElem?_eq_some_iff.1 hv).1
    rwa [eC_len] at this
  have hq : j / 3 < l.length := by omega
  obtain ⟨b, o, e, _, c0, c1, c2⟩ := rdE_at h (j / 3) hq
  injection e with e
  subst e
  obtain ⟨d0, d1, d2⟩ := eC_at hq
  rw [Go.WideShapes.add_plain]
  have h3 : j = j / 3 * 3 + j % 3 := by omega
  have hr : j % 3 = 0 ∨ j % 3 = 1 ∨ j % 3 = 2 := by omega
  rcases hr with r | r | r
  · rw [h3, r, Nat.add_zero] at hv ⊢
    rw [d0] at hv
    rw [← hv]; exact c0
  · rw [h3, r] at hv ⊢
    rw [d1] at hv
    rw [← hv, ← Nat.add_assoc]; exact c1
  · rw [h3, r] at hv ⊢
    rw [d2] at hv
    rw [← hv, ← Nat.add_assoc]; exact c2

set_option maxRecDepth 100000 in
set_option maxHeartbeats 1000000 in
theorem lentE_some (ad : Addr) (c : Nat) (l : List Ent) (w : World) (h : RdE w (.slice (some ad) l.length c) l) (hl : l.length ≤ 1048576) :
    Calls Tryz.prog 112 #[.slice (some ad) l.length c] w fun e w' => e = .returned (.slice (some ⟨w.heap.size, 0, none⟩) l.length (l.length + 3)) ∧ Below w.heap.size w w' ∧ ∃ cs0, cs0.length = (l.length + 3) * 3 ∧ Blk w' w.heap.size 66 (lentE l cs0 3) := by
  obtain ⟨i0, hi0, hz0, hz1, hz2⟩ := info_parts Tryz.info66
  have hmk := run_makeSlice (P := Tryz.prog) w 57 66 i0 _ Tryz.underlying57 hi0 hz0 .i64 .i64 ((l.length : Int) + 3) ((l.length : Int) + 3) (by omega) (by omega) (by rw [hz1]; omega) (by rw [hz2]; omega) (by omega)
  rw [hz1, show ((l.length : Int) + 3).toNat = l.length + 3 by omega] at hmk
  have hsz : (madeCells (Value.agg #[Value.int IntKind.i64 0, Value.int IntKind.i64 0, Value.string ByteArray.empty]).cells ((l.length + 3) * 3)).size = (l.length + 3) * 3 := by simp [madeCells]
  generalize madeCells (Value.agg #[Value.int IntKind.i64 0, Value.int IntKind.i64 0, Value.string ByteArray.empty]).cells ((l.length + 3) * 3) = M at *
  have hg0 : (w.alloc (.cells M 66)).heap[w.heap.size]? = some (.cells M 66 (0, 0)) := by
    show (w.heap.push _)[w.heap.size]? = _
    rw [Array.getElem?_push, if_pos rfl]
  have hb := below_alloc w (.cells M 66)
  have hcp := run_copy_three (P := Tryz.prog) (w.alloc (.cells M 66)) 57 57 3 66 w.heap.size (l.length + 3) (l.length + 3) ad l.length c M 66 (l.flatMap eC) Tryz.underlying57 i0 hi0 hz1 hg0 (by omega) (eC_len l) (eC_src (h.below hb)) (by rw [eC_len, hsz]; omega) (eC_one l)
  have HB0 : Hid (Below w.heap.size w ((w.alloc (.cells M 66)).setRow w.heap.size (l.flatMap eC ++ M.toList.drop (l.flatMap eC).length).toArray) ∧ Blk ((w.alloc (.cells M 66)).setRow w.heap.size (l.flatMap eC ++ M.toList.drop (l.flatMap eC).length).toArray) w.heap.size 66 (lentE l M.toList 0)) := by
    refine ⟨⟨hb.os, hb.tape, hb.output, by simp, fun k hk => ?_⟩, ?_⟩
    · rw [setRow_other _ _ k _ (by omega)]
      exact hb.block k hk
    · unfold Blk
      rw [setRow_heap _ _ _ _ _ _ hg0]
      unfold lentE
      rw [eC_len]
      simp
  have hM : Hid (M.toList.length = (l.length + 3) * 3) := by show _ = _; rw [Array.length_toList]; exact hsz
  generalize (w.alloc (.cells M 66)).setRow w.heap.size (l.flatMap eC ++ M.toList.drop (l.flatMap eC).length).toArray = W0 at *
  have HCP := hide hcp
  clear hcp hg0 h hb hsz
  generalize hn : l.length = n at *
  have HN := hide hn
  clear hn
  have hnil : (binOp .eql 57 (.slice (some ad) n c) (.slice none 0 0)).run Tryz.prog w = .ok (.bool false) w := eql_nil w 57 66 (some ad) n c 0 0 Tryz.underlying57
  go_enter Tryz.func112, Tryz.ntmps112
  go_wp2_with fail
  rw [HCP.out]
  go_wp2_with fail
  clear hmk HCP
  go_loopw [5] (fun i wr => ∃ k : Nat, k ≤ 3 ∧ i = .int .i64 ((n : Int) + k) ∧ Below w.heap.size w wr ∧ Blk wr w.heap.size 66 (lentE l M.toList k)) (fun i _ => n + 3 - (intOf i).toNat)
  case atStart => exact ⟨0, by omega, by simp, HB0.out.1, HB0.out.2⟩
  case round =>
    obtain ⟨k, hk, rfl, hb, hbl⟩ := hrel
    have HB := hide hb
    have HBL := hide hbl
    clear hb hbl
    by_cases hlt : k < 3
    · have hll := lentE_len (l := l) (cs0 := M.toList) (k := k) (by rw [HN.out]; exact hM.out) hk
      rw [HN.out] at hll
      obtain ⟨hc0, hf0⟩ := HBL.out.at (j := (n + k) * 3) (u := (lentE l M.toList k)[(n + k) * 3]'(by omega)) (by simp)
      obtain ⟨hc1, hf1⟩ := HBL.out.at (j := (n + k) * 3 + 1) (u := (lentE l M.toList k)[(n + k) * 3 + 1]'(by omega)) (by simp)
      obtain ⟨hc2, hf2⟩ := HBL.out.at (j := (n + k) * 3 + 2) (u := (lentE l M.toList k)[(n + k) * 3 + 2]'(by omega)) (by simp)
      generalize (lentE l M.toList k)[(n + k) * 3]'(by omega) = y0 at *
      generalize (lentE l M.toList k)[(n + k) * 3 + 1]'(by omega) = y1 at *
      generalize (lentE l M.toList k)[(n + k) * 3 + 2]'(by omega) = y2 at *
      clear hll
      go_wp2
      go_roundw
      case rel =>
        refine ⟨k + 1, by omega, by go_num, ((HB.out.setCell (Nat.le_refl _) _).setCell (Nat.le_refl _) _).setCell (Nat.le_refl _) _, ?_⟩
        have := ((HBL.out.put ((n + k) * 3) (.int .i64 77)).put ((n + k) * 3 + 1) (.int .i64 0)).put ((n + k) * 3 + 2) (.string ⟨#[]⟩)
        have e := lentE_set (l := l) (cs0 := M.toList) (k := k) (by rw [HN.out]; exact hM.out) hlt
        rw [HN.out] at e
        rwa [e] at this
      case measure => simp [intOf]; omega
    · have hke : k = 3 := by omega
      subst hke
      go_wp2
      go_ret
      exact ⟨rfl, HB.out, M.toList, hM.out, HBL.out⟩
end Go.Proofs.YtkncboinfcnklaaGreatDoor
