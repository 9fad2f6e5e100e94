import Derived.Test.YtkncboinfcnklaaGreatDoorL13
namespace Go.Proofs.YtkncboinfcnklaaGreatDoor
open Go.RowKit Go.Deep Go.Proofs.YtkncboinfcnklaaGreatDoor.Mth

theorem curE_nil {w w' : World} (hb : Below w.heap.size w w') : CurE w w' (.slice none 0 0) [] := ⟨hb, World.ownsRow_nil _ _ _ _⟩

/-- The program's reading and the document's, both. -/
theorem unpack_both (S : ByteArray) (hS : S.size ≤ 1048576) : ∃ (F : Int) (L : List Ent), L.length ≤ 64 ∧
    (∀ (w : World) (v : Value), RdB w v (tb S) → Tab w → Calls Tryz.prog 118 #[v] w fun e w' => ∃ v', e = .returned (.tuple #[v', .int .i64 F]) ∧ CurE w w' v' L) ∧
    (∀ w : World, Calls Tryz.prog 119 #[.string S] w fun e w' => ∃ v', e = .returned (.tuple #[v', .int .i64 F]) ∧ CurE w w' v' L) := by
  by_cases hp : isPk (tb S)
  · refine ⟨0, rdAll (tb S), rdAll_len _, fun w v hv hT => ?_, fun w => ?_⟩
    · refine (unpack_any v (tb S) w hv (tb_bts S) hT).mono ?_
      rintro e w' (⟨_, v', rfl, hc⟩ | ⟨h, _⟩)
      · exact ⟨v', rfl, hc⟩
      · exact absurd hp h
    · refine (refUnpack_any S w hS).mono ?_
      rintro e w' (⟨_, v', rfl, hc⟩ | ⟨h, _⟩)
      · exact ⟨v', rfl, hc⟩
      · exact absurd hp h
  · refine ⟨2, [], by simp, fun w v hv hT => ?_, fun w => ?_⟩
    · refine (unpack_any v (tb S) w hv (tb_bts S) hT).mono ?_
      rintro e w' (⟨h, _⟩ | ⟨_, rfl, hb⟩)
      · exact absurd h hp
      · exact ⟨_, rfl, curE_nil hb⟩
    · refine (refUnpack_any S w hS).mono ?_
      rintro e w' (⟨h, _⟩ | ⟨_, rfl, hb⟩)
      · exact absurd h hp
      · exact ⟨_, rfl, curE_nil hb⟩

theorem kept_at {wk w' : World} {B0 B wb off : Nat} {T e t : TypeId} {sz : Nat} {f : Nat → Value} {tv tv' : Value} {N M : Nat} {xs ys : List Value} {C D : Array Value} {Q : Qd} {n g : Nat} {E : Array Value} (h : Kept wk w' B0 wb off B T e sz f tv tv' N xs C Q n) (hg : g < B0) (hE : wk.heap[g]? = some (Obj.cells E t (0, 0))) (hD : wk.heap[wb]? = some (Obj.cells D 91 (0, 0))) (hrow : wk.ownsRow B T 5 tv M ys) (h1 : t ≠ 91) (h2 : T ≠ t) : w'.heap[g]? = some (Obj.cells E t (0, 0)) := by
  rw [h.same g hg (fun q => ?_) (fun q => ?_)]
  · exact hE
  · subst q
    rw [hE] at hD
    injection hD with hD
    injection hD with _ hD _
    exact h1 hD
  · obtain ⟨_, _, E2, hE2⟩ := own_block hrow q
    rw [hE] at hE2
    injection hE2 with hE2
    injection hE2 with _ hE2 _
    exact h2 hE2.symm

set_option maxRecDepth 100000 in
set_option maxHeartbeats 2000000 in
theorem seg_unpack (Win w : World) (wb : Nat) (g0 g1 g2 g3 : Value) (M : Nat) (A Bv Cv : Int) (S T : ByteArray) (hW : Below Win.heap.size Win w) (hSI : SI w Win.heap.size wb g0 g1 g2 g3 M) (hT : Tab Win) (hS : S.size ≤ 1048576) (hM : M ≤ 1048576) :
    Calls Tryz.prog 65 #[.pointer (some ⟨wb, 0, none⟩), .agg #[.int .i64 9, .int .i64 A, .int .i64 Bv, .int .i64 Cv, .string S, .string T]] w fun e w' => e = .returned (.bool true) ∧ Below Win.heap.size Win w' ∧ SI w' Win.heap.size wb g0 g1 g2 g3 (M + 1) ∧ KeepO w w' := by
  obtain ⟨kb, kt, ke, C, Nb, Nt, Ne, hI, h1, h2, h3⟩ := hSI
  obtain ⟨q, hrow, hall⟩ := hI.be
  obtain ⟨F, L, hL, hU, hR⟩ := unpack_both S hS
  have HU := hide hU
  have HR := hide hR
  have HI := hide hI
  have HROW := hide hrow
  have HALL := hide hall
  have HW := hide hW
  have HT := hide hT
  have hsw := hW.size
  have hct : Hid (C[12]? = some ke) := by show _ = _; rw [hI.cs]; rfl
  have hcs : Hid (C.size = 15) := by show _ = _; rw [hI.cs]; rfl
  have hwl : wb < w.heap.size := (Array.getElem?_eq_some_iff.1 hI.blk).1
  have HO := hide (opCells w 9 A Bv Cv S T)
  have HB1 := hide (below_alloc w (Obj.cells #[.int .i64 9, .int .i64 A, .int .i64 Bv, .int .i64 Cv, .string S, .string T] 94))
  have hlt1 : w.heap.size < (w.alloc (Obj.cells #[.int .i64 9, .int .i64 A, .int .i64 Bv, .int .i64 Cv, .string S, .string T] 94)).heap.size := by simp
  clear hI hrow hall hW hT hU hR
  go_enter Tryz.func65, Tryz.ntmps65
  go_wp2_with fail
  generalize w.alloc (Obj.cells #[.int .i64 9, .int .i64 A, .int .i64 Bv, .int .i64 Cv, .string S, .string T] 94) = w1 at *
  have HW1 := hide (HW.out.trans (HB1.out.mono hsw))
  refine (lentBytes_any S w1 hS).mono ?_
  rintro e w2 ⟨rfl, hb2, hbl2⟩
  have HBL2 := hide hbl2
  have HB2 := hide hb2
  have hs2 := hb2.size
  have HO2 := hide ((hb2.block w.heap.size hlt1).trans HO.out)
  have hgl : w1.heap.size < w2.heap.size := (Array.getElem?_eq_some_iff.1 hbl2).1
  have HW2 := hide (HW1.out.trans (hb2.mono HW1.out.size))
  clear hb2 hbl2
  go_wp2_with fail
  refine (HU.out w2 _ (rdB_lent HBL2.out hS) (HT.out.below HW2.out (Nat.le_refl _))).mono ?_
  rintro e w3 ⟨v3, rfl, hc3⟩
  have HC3 := hide hc3
  have hs3 := hc3.1.size
  have HO3 := hide ((hc3.1.block w.heap.size (by omega)).trans HO2.out)
  obtain ⟨y3, _⟩ := cell_of (j := 4) (u := .string S) HO3.out rfl
  obtain ⟨va, vc, rfl, _, _⟩ := own_slice hc3.2
  clear hc3
  go_wp2_with fail
  clear y3
  refine (HR.out w3).mono ?_
  rintro e w4 ⟨v4, rfl, hc4⟩
  have hs4 := hc4.1.size
  have HC34 := hide (curE_below HC3.out hc4.1)
  have HC4 := hide hc4
  clear hc4
  go_wp2_with fail
  refine (sameEntries_any (rdE_own HC34.out.2) (rdE_own HC4.out.2)).mono ?_
  rintro e w5 ⟨rfl, hb5⟩
  have hs5 := hb5.size
  have HC5 := hide (curE_below HC34.out hb5)
  clear hb5
  go_wp2_with (first | (go_at_call 114; refine (num_any F _).mono ?_; rintro e w' ⟨rfl, hw⟩; rw [hw]; clear hw w'))
  have HB05 : Hid (Below w.heap.size w w5) := by
    show Below _ _ _
    have q1 := HB1.out.trans (HB2.out.mono (by omega))
    exact q1.trans (HC5.out.1.mono (by omega))
  have HBL5 := hide ((HC5.out.1.block w1.heap.size hgl).trans HBL2.out)
  have HBW5 := hide ((HB05.out.block wb hwl).trans HI.out.blk)
  have HRW5 := hide (own_same HROW.out (fun g hg => HB05.out.block g (own_block HROW.out hg).2.1))
  have CK := hide (keepEntries_any w5 w2.heap.size wb Win.heap.size _ ke _ Ne _ _ C HC5.out.2 (by omega) (by omega) HBW5.out hcs.out hct.out HRW5.out (fun g hg => by have := (own_block HROW.out hg).2.1; omega) (by omega) (by omega) (by omega))
  refine CK.out.mono ?_
  rintro e w6 ⟨rfl, tv', va', vb', vc', hK⟩
  have HA6 := hide (aft_of HB05.out (by omega) hK)
  have HBL6 : Hid (Blk w6 w1.heap.size 5 (lent S 3)) := kept_at hK hgl HBL5.out HBW5.out HRW5.out (by decide) (by decide)
  have HO6 := hide (kept_at hK (show w.heap.size < w2.heap.size by omega) ((HC5.out.1.block w.heap.size (by omega)).trans HO2.out) HBW5.out HRW5.out (by decide) (by decide))
  obtain ⟨y6, _⟩ := cell_of (j := 4) (u := .string S) HO6.out rfl
  clear hK CK
  go_wp2_with fail
  clear y6
  refine (wholeBytes_any S w1.heap.size w6 hS HBL6.out).mono ?_
  rintro e w7 ⟨rfl, hg7⟩
  have HA7 := hide (HA6.out.only hg7 HBL6.out (by decide) (by decide) (by decide) (by omega))
  clear hg7
  go_wp2
  go_ret
  exact ⟨rfl, HW.out.trans (HA7.out.frame HI.out.ge HROW.out hsw), sinv_ent HI.out HROW.out HALL.out HA7.out (by omega) h1 h2 h3, HA7.out.keepO HI.out.blk HROW.out (by decide)⟩
end Go.Proofs.YtkncboinfcnklaaGreatDoor
