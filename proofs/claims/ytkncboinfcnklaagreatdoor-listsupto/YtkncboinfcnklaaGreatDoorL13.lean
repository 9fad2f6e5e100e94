import Derived.Test.YtkncboinfcnklaaGreatDoorL12
namespace Go.Proofs.YtkncboinfcnklaaGreatDoor
open Go.RowKit Go.Deep Go.Proofs.YtkncboinfcnklaaGreatDoor.Mth

/-- A slice of slices of entries that came in. -/
def RdEE (w : World) (v : Value) (Es : List (List Ent)) : Prop :=
  ∃ (a : Option Addr) (c : Nat), v = .slice a Es.length c ∧ Es.length ≤ c ∧ c ≤ maxLen ∧ (Es = [] ∨ ∃ b o, a = some ⟨b, o, none⟩ ∧ ∀ i, i < Es.length → ∃ vi, w.cell? ⟨b, o + i, none⟩ = some vi ∧ RdE w vi (Es.getD i []))

theorem opCells (w : World) (k A B C : Int) (S T : ByteArray) : (w.alloc (Obj.cells #[.int .i64 k, .int .i64 A, .int .i64 B, .int .i64 C, .string S, .string T] 94)).heap[w.heap.size]? = some (Obj.cells #[.int .i64 k, .int .i64 A, .int .i64 B, .int .i64 C, .string S, .string T] 94 (0, 0)) := by
  show (w.heap.push _)[w.heap.size]? = _
  rw [Array.getElem?_push, if_pos rfl]

set_option maxRecDepth 100000 in
set_option maxHeartbeats 2000000 in
theorem seg_words (Win w : World) (wb : Nat) (g0 g1 g2 g3 : Value) (M : Nat) (A Bv Cv : Int) (S T : ByteArray) (hW : Below Win.heap.size Win w) (hSI : SI w Win.heap.size wb g0 g1 g2 g3 M) (hT : Tab Win) (hS : S.size ≤ 1048576) (hM : M ≤ 1048576) :
    Calls Tryz.prog 65 #[.pointer (some ⟨wb, 0, none⟩), .agg #[.int .i64 7, .int .i64 A, .int .i64 Bv, .int .i64 Cv, .string S, .string T]] w fun e w' => e = .returned (.bool true) ∧ Below Win.heap.size Win w' ∧ SI w' Win.heap.size wb g0 g1 g2 g3 (M + 1) ∧ KeepO w w' := by
  obtain ⟨kb, kt, ke, C, Nb, Nt, Ne, hI, h1, h2, h3⟩ := hSI
  obtain ⟨q, hrow, hall⟩ := hI.bt
  have HI := hide hI
  have HROW := hide hrow
  have HALL := hide hall
  have HW := hide hW
  have HT := hide hT
  have hsw := hW.size
  have hct : Hid (C[11]? = some kt) := by show _ = _; rw [hI.cs]; rfl
  have hcs : Hid (C.size = 15) := by show _ = _; rw [hI.cs]; rfl
  have hwl : wb < w.heap.size := (Array.getElem?_eq_some_iff.1 hI.blk).1
  have HO := hide (opCells w 7 A Bv Cv S T)
  have HB1 := hide (below_alloc w (Obj.cells #[.int .i64 7, .int .i64 A, .int .i64 Bv, .int .i64 Cv, .string S, .string T] 94))
  have hlt1 : w.heap.size < (w.alloc (Obj.cells #[.int .i64 7, .int .i64 A, .int .i64 Bv, .int .i64 Cv, .string S, .string T] 94)).heap.size := by simp
  clear hI hrow hall hW hT
  go_enter Tryz.func65, Tryz.ntmps65
  go_wp2_with fail
  generalize w.alloc (Obj.cells #[.int .i64 7, .int .i64 A, .int .i64 Bv, .int .i64 Cv, .string S, .string T] 94) = w1 at *
  have HW1 := hide (HW.out.trans (HB1.out.mono hsw))
  refine (words_all S w1 (HT.out.below HW1.out (Nat.le_refl _)) hS).mono ?_
  rintro e w2 ⟨v2, rfl, hc2⟩
  have HC2 := hide hc2
  obtain ⟨va, vc, rfl, _, _⟩ := own_slice hc2.2
  have HO2 := hide ((hc2.1.block w.heap.size hlt1).trans HO.out)
  obtain ⟨y2, _⟩ := cell_of (j := 4) (u := .string S) HO2.out rfl
  have hs2 := hc2.1.size
  clear hc2
  go_wp2_with fail
  clear y2
  refine (refWords_any S w2 hS).mono ?_
  rintro e w3 ⟨v3, rfl, hb3, hr3⟩
  have HB3 := hide hb3
  have HOWN3 := hide (HC2.out.2.kept (row := none) ⟨hb3.os, hb3.tape, hb3.output, hb3.size, fun k hk _ => hb3.block k hk⟩ (by simp [Value.ownBlock]; try (cases va <;> simp)))
  have HR3 := hide hr3
  have hs3 := hb3.size
  clear hb3 hr3
  go_wp2_with fail
  refine (sameTexts_any (rd_own HOWN3.out) HR3.out).mono ?_
  rintro e w4 ⟨rfl, hb4⟩
  have HOWN4 := hide (HOWN3.out.kept (row := none) ⟨hb4.os, hb4.tape, hb4.output, hb4.size, fun k hk _ => hb4.block k hk⟩ (by simp [Value.ownBlock]; try (cases va <;> simp)))
  have hs4 := hb4.size
  have HB04 : Hid (Below w.heap.size w w4) := by
    show Below _ _ _
    have q1 := HB1.out.trans (HC2.out.1.mono (by omega))
    have q2 := q1.trans (HB3.out.mono (by omega))
    exact q2.trans (hb4.mono (by omega))
  clear hb4
  have CK := hide (keepTexts_any w4 w.heap.size wb Win.heap.size _ kt _ Nt _ _ C (own_mono HOWN4.out (by omega)) hwl (by omega) ((HB04.out.block wb hwl).trans HI.out.blk) hcs.out hct.out (own_same HROW.out (fun g hg => HB04.out.block g (own_block HROW.out hg).2.1)) (fun g hg => (own_block HROW.out hg).2.1) hsw (by have := wd_len S; omega) (by omega))
  go_wp2_with fail
  refine CK.out.mono ?_
  rintro e w5 ⟨rfl, tv', va', vb', vc', hK⟩
  have HA := hide (aft_of HB04.out (Nat.le_refl _) hK)
  clear hK CK
  go_wp2
  go_ret
  exact ⟨rfl, HW.out.trans (HA.out.frame HI.out.ge HROW.out hsw), sinv_text HI.out HROW.out HALL.out HA.out (by have := wd_len S; omega) h1 h2 h3, HA.out.keepO HI.out.blk HROW.out (by decide)⟩
end Go.Proofs.YtkncboinfcnklaaGreatDoor
