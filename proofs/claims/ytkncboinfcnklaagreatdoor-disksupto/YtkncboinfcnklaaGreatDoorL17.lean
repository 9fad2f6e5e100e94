import Derived.Test.YtkncboinfcnklaaGreatDoorL16
namespace Go.Proofs.YtkncboinfcnklaaGreatDoor
open Go.RowKit Go.Deep Go.Proofs.YtkncboinfcnklaaGreatDoor.Mth

/-- The entry that the document names. -/
def eOne : Ent := ⟨5, 7, ⟨#[97, 45, 65]⟩⟩

theorem seg_one : Seg [eOne] := by
  refine ⟨by simp, by simp, fun i hi => ?_⟩
  have : i = 0 := by simp at hi; exact hi
  subst this
  unfold okAt isE
  simp [eOne, ByteArray.size]

theorem alloc_old {w : World} {o : Obj} {k : Nat} {D : Obj} (h : w.heap[k]? = some D) : (w.alloc o).heap[k]? = some D := by
  rw [_root_.Go.heap_alloc_old w o (Array.getElem?_eq_some_iff.1 h).1]
  exact h
theorem alloc_new (w : World) (o : Obj) (k : Nat) (hk : k = w.heap.size) : (w.alloc o).heap[k]? = some o := by
  subst hk
  show (w.heap.push o)[w.heap.size]? = _
  rw [Array.getElem?_push, if_pos rfl]

set_option maxRecDepth 100000 in
set_option maxHeartbeats 1000000 in
theorem known_any (w : World) :
    Calls Tryz.prog 27 #[] w fun e w' => ∃ s0 s1 s2 s3 : Value, (∃ a n c, s0 = .slice a n c) ∧ (∃ a n c, s1 = .slice a n c) ∧ (∃ a n c, s3 = .slice a n c) ∧ e = .returned (.agg #[s0, s1, s2, s3]) ∧ Below w.heap.size w w' ∧ RdEE w' s2 [[eOne]] := by
  go_enter Tryz.func27, Tryz.ntmps27
  go_wp2
  refine bodyPost_ret (v := .agg #[.slice (some ⟨w.heap.size + 1 + 1 + 1, 0, none⟩) 2 2, .slice (some ⟨w.heap.size + 1 + 1 + 1 + 1 + 1 + 1, 0, none⟩) 2 2, .slice (some ⟨w.heap.size + 1 + 1 + 1 + 1 + 1 + 1 + 1 + 1, 0, none⟩) 1 1, .slice (some ⟨w.heap.size + 1 + 1 + 1 + 1 + 1 + 1 + 1 + 1 + 1, 0, none⟩) 2 2]) (by simp [results, Tryz.results27, go_sem]) rfl ⟨_, _, _, _, ⟨_, _, _, rfl⟩, ⟨_, _, _, rfl⟩, ⟨_, _, _, rfl⟩, rfl, ?_, ?_⟩
  · repeat (first | exact below_alloc w _ | refine Below.alloc ?_ (by simp; try omega) _)
  · refine ⟨_, 1, rfl, by simp, by unfold maxLen; simp, Or.inr ⟨_, 0, rfl, fun i hi => ?_⟩⟩
    have hi0 : i = 0 := by simp at hi; exact hi
    subst hi0
    refine ⟨.slice (some ⟨w.heap.size + 1 + 1 + 1 + 1 + 1 + 1 + 1, 0, none⟩) 1 1, (cell_of (j := 0) (alloc_old (alloc_new _ _ _ (by simp))) rfl).1, ⟨_, 1, rfl, by simp, by unfold maxLen; simp, Or.inr ⟨_, 0, rfl, fun j hj => ?_⟩⟩⟩
    have hj0 : j = 0 := by simp at hj; exact hj
    subst hj0
    exact ⟨(cell_of (j := 0) (alloc_old (alloc_old (alloc_new _ _ _ (by simp)))) rfl).1, (cell_of (j := 1) (alloc_old (alloc_old (alloc_new _ _ _ (by simp)))) rfl).1, (cell_of (j := 2) (alloc_old (alloc_old (alloc_new _ _ _ (by simp)))) rfl).1⟩

/-- The cells of a script. -/
def oC (o : Opr) : List Value := [.int .i64 o.k, .int .i64 o.A, .int .i64 o.B, .int .i64 o.C, .string o.S, .string o.T]
theorem oC_len (l : List Opr) : (l.flatMap oC).length = l.length * 6 := by
  induction l with
  | nil => rfl
  | cons e l ih => rw [List.flatMap_cons, List.length_append, ih]; simp [oC]; omega
theorem oC_at {l : List Opr} {j t : Nat} (h : j < l.length) (ht : t < 6) : (l.flatMap oC)[j * 6 + t]? = (oC (l.getD j o0))[t]? := by
  induction l generalizing j with
  | nil => simp at h
  | cons e l ih =>
    rw [List.flatMap_cons]
    cases j with
    | zero => rw [List.getElem?_append_left (by simp [oC]; omega)]; simp [List.getD]
    | succ j =>
      rw [List.getElem?_append_right (by simp [oC]; omega), show (j + 1) * 6 + t - (oC e).length = j * 6 + t by simp [oC]; omega, ih (by simpa using h)]
      simp [List.getD]
theorem rdO_blk {w : World} {g : Nat} {l : List Opr} (h : Blk w g 94 (l.flatMap oC)) (hl : l.length ≤ 1048576) : RdO w (.slice (some ⟨g, 0, none⟩) l.length l.length) l := by
  refine ⟨_, l.length, rfl, Nat.le_refl _, by unfold maxLen; omega, Or.inr ⟨g, 0, rfl, fun j hj => ?_⟩⟩
  rw [Nat.zero_add]
  have k0 := oC_at (t := 0) hj (by omega)
  rw [Nat.add_zero] at k0
  exact ⟨(h.at (k0.trans rfl)).1, (h.at ((oC_at (t := 1) hj (by omega)).trans rfl)).1, (h.at ((oC_at (t := 2) hj (by omega)).trans rfl)).1, (h.at ((oC_at (t := 3) hj (by omega)).trans rfl)).1, (h.at ((oC_at (t := 4) hj (by omega)).trans rfl)).1, (h.at ((oC_at (t := 5) hj (by omega)).trans rfl)).1⟩

/-- The steps that every right program plays. -/
def opn (P : ByteArray) : List Opr :=
  [⟨1, 0, 1, 1, ⟨#[]⟩, ⟨#[]⟩⟩, ⟨2, 0, 1, 0, ⟨#[]⟩, ⟨#[]⟩⟩, ⟨4, 0, 5, 0, ⟨#[120]⟩, ⟨#[]⟩⟩, ⟨5, 0, 5, 0, ⟨#[120]⟩, ⟨#[]⟩⟩, ⟨6, 0, 5, 5, ⟨#[97]⟩, ⟨#[122]⟩⟩,
   ⟨7, 0, 0, 0, ⟨#[68, 105, 115, 107, 32, 50]⟩, ⟨#[]⟩⟩, ⟨8, 0, 0, 0, ⟨#[]⟩, ⟨#[]⟩⟩, ⟨9, 0, 0, 0, P, ⟨#[]⟩⟩,
   ⟨10, 1, 0, 0, ⟨#[]⟩, ⟨#[]⟩⟩, ⟨11, 0, 0, 0, ⟨#[]⟩, ⟨#[]⟩⟩, ⟨10, 0, 0, 0, ⟨#[]⟩, ⟨#[]⟩⟩, ⟨12, 0, 0, 0, ⟨#[111, 110, 101]⟩, ⟨#[]⟩⟩, ⟨12, 0, 0, 0, ⟨#[116, 119, 111, 32, 111, 110, 101]⟩, ⟨#[]⟩⟩, ⟨12, 0, 0, 0, ⟨#[116, 104, 114, 101, 101]⟩, ⟨#[]⟩⟩, ⟨12, 0, 0, 0, ⟨#[102, 111, 117, 114]⟩, ⟨#[]⟩⟩, ⟨13, 0, 3, 0, ⟨#[]⟩, ⟨#[]⟩⟩,
   ⟨14, 0, 0, 9, ⟨#[111, 110, 101]⟩, ⟨#[]⟩⟩, ⟨15, 0, 0, 0, ⟨#[]⟩, ⟨#[]⟩⟩, ⟨15, 0, 0, 0, ⟨#[]⟩, ⟨#[]⟩⟩, ⟨15, 0, 0, 0, ⟨#[]⟩, ⟨#[]⟩⟩, ⟨16, 0, 0, 0, ⟨#[]⟩, ⟨#[]⟩⟩,
   ⟨17, 0, 0, 0, ⟨#[102, 105, 118, 101]⟩, ⟨#[]⟩⟩, ⟨18, 0, 0, 0, ⟨#[]⟩, ⟨#[]⟩⟩, ⟨18, 0, 1, 0, ⟨#[]⟩, ⟨#[]⟩⟩, ⟨19, 0, 1, 0, ⟨#[]⟩, ⟨#[]⟩⟩, ⟨21, 0, 0, 0, ⟨#[]⟩, ⟨#[]⟩⟩, ⟨14, 0, 0, 9, ⟨#[116, 119, 111]⟩, ⟨#[]⟩⟩]

theorem opn_len (P : ByteArray) : (opn P).length = 27 := rfl
theorem opn_ok (P : ByteArray) (h : P.size ≤ 1048576) : ∀ o ∈ opn P, OkO o := by
  have hs : ∀ a : Array UInt8, a.size ≤ 100 → (ByteArray.mk a).size ≤ 1048576 := fun a ha => by show a.size ≤ 1048576; omega
  intro o ho
  unfold opn at ho
  simp only [List.mem_cons, List.not_mem_nil, or_false] at ho
  rcases ho with rfl | rfl | rfl | rfl | rfl | rfl | rfl | rfl | rfl | rfl | rfl | rfl | rfl | rfl | rfl | rfl | rfl | rfl | rfl | rfl | rfl | rfl | rfl | rfl | rfl | rfl | rfl
  all_goals first | exact ⟨by simp, by simp, h⟩ | exact ⟨by simp, by simp, hs _ (by simp)⟩

def pkS : ByteArray := strOfNums (pk [eOne])
theorem pkS_size : pkS.size ≤ 1048576 := by
  unfold pkS
  rw [size_nums]
  have := body_len seg_one
  unfold pk
  rw [List.length_append, num_len]
  omega

set_option maxRecDepth 100000 in
set_option maxHeartbeats 2000000 in
theorem opening_any (w : World) :
    Calls Tryz.prog 28 #[] w fun e w' => ∃ g, e = .returned (.slice (some ⟨g, 0, none⟩) 27 27) ∧ Below w.heap.size w w' ∧ Blk w' g 94 ((opn pkS).flatMap oC) := by
  have hrd : RdE (w.alloc (Obj.cells #[.int .i64 5, .int .i64 7, .string ⟨#[97, 45, 65]⟩] 66)) (.slice (some ⟨w.heap.size, 0, none⟩) 1 1) [eOne] := by
    refine ⟨_, 1, rfl, by simp, by unfold maxLen; simp, Or.inr ⟨_, 0, rfl, fun j hj => ?_⟩⟩
    have hj0 : j = 0 := by simp at hj; exact hj
    subst hj0
    refine ⟨?_, ?_, ?_⟩
    all_goals simp [eOne, List.getD]
  have HB := hide (below_alloc w (Obj.cells #[.int .i64 5, .int .i64 7, .string ⟨#[97, 45, 65]⟩] 66))
  have CP := hide (refPack_yes _ _ _ hrd seg_one)
  have HP : Hid (pkS = strOfNums (pk [eOne])) := rfl
  rw [← HP.out] at CP
  clear hrd
  go_enter Tryz.func28, Tryz.ntmps28
  go_wp2_with fail
  refine CP.out.mono ?_
  rintro e w2 ⟨rfl, hb2⟩
  have HB2 := hide (HB.out.trans (hb2.mono HB.out.size))
  clear hb2 CP HB
  generalize pkS = PS at *
  go_wp2
  go_ret
  refine ⟨_, rfl, HB2.out.alloc (by have := HB2.out.size; omega) _, ?_⟩
  show (w2.heap.push _)[w2.heap.size]? = _
  rw [Array.getElem?_push, if_pos rfl]
  simp [opn, oC]
  exact HP.out
end Go.Proofs.YtkncboinfcnklaaGreatDoor
