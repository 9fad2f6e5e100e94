import Derived.Test.YtkncboinfcnklaaGreatDoorL14
namespace Go.Proofs.YtkncboinfcnklaaGreatDoor
open Go.RowKit Go.Deep Go.Proofs.YtkncboinfcnklaaGreatDoor.Mth

set_option maxHeartbeats 400000 in
theorem pick_fix (c n : Int) (h0 : -9223372036854775808 ≤ c) (h1 : c < 9223372036854775808) (hn : 0 < n) (hn1 : n ≤ 4611686018427387904) :
    ∃ r : Int, 0 ≤ r ∧ r < n ∧ ∀ w, Calls Tryz.prog 15 #[.int .i64 c, .int .i64 n] w fun e w' => e = .returned (.int .i64 r) ∧ w' = w := by
  have hz : (n == 0) = false := by simp; omega
  by_cases hc : c < 0
  · have hm : 0 ≤ (-(c + 1)).tmod n ∧ (-(c + 1)).tmod n < n := ⟨Int.tmod_nonneg _ (by omega), Int.tmod_lt_of_pos _ hn⟩
    rw [Int.neg_tmod] at hm
    refine ⟨_, hm.1, hm.2, fun w => ?_⟩
    clear hm
    go_enter Tryz.func15, Tryz.ntmps15
    go_wp2
    go_ret
    exact ⟨rfl, rfl⟩
  · refine ⟨_, Int.emod_nonneg c (show n ≠ 0 by omega), Int.emod_lt_of_pos _ hn, fun w => ?_⟩
    go_enter Tryz.func15, Tryz.ntmps15
    go_wp2
    go_ret
    exact ⟨rfl, rfl⟩

theorem rdE_lent {w : World} {g : Nat} {l : List Ent} {cs0 : List Value} (h : Blk w g 66 (lentE l cs0 3)) (hl : l.length ≤ 1048576) : RdE w (.slice (some ⟨g, 0, none⟩) l.length (l.length + 3)) l := by
  refine ⟨_, l.length + 3, rfl, by omega, by unfold maxLen; omega, Or.inr ⟨g, 0, rfl, fun j hj => ?_⟩⟩
  obtain ⟨h0, h1, h2⟩ := lentE_head (cs0 := cs0) hj
  rw [Nat.zero_add]
  exact ⟨(h.at h0).1, (h.at h1).1, (h.at h2).1⟩

def LP (w1 w2 : World) (vi x : Value) (l : List Ent) : Prop := (∃ n c, vi = .slice none n c ∧ x = .slice none 0 0) ∨ (∃ ad c cs0, vi = .slice (some ad) l.length c ∧ x = .slice (some ⟨w1.heap.size, 0, none⟩) l.length (l.length + 3) ∧ cs0.length = (l.length + 3) * 3 ∧ Blk w2 w1.heap.size 66 (lentE l cs0 3))

theorem lent_both (w1 : World) (vi : Value) (l : List Ent) (h : RdE w1 vi l) (hl : l.length ≤ 1048576) :
    Calls Tryz.prog 112 #[vi] w1 fun e w2 => ∃ a n c, e = .returned (.slice a n c) ∧ Below w1.heap.size w1 w2 ∧ RdE w2 (.slice a n c) l ∧ LP w1 w2 vi (.slice a n c) l := by
  obtain ⟨a, c, rfl, _, _⟩ := rdE_len h
  cases a with
  | none =>
    have hl0 : l = [] := by
      obtain ⟨a', c', e, _, _, hh⟩ := h
      injection e with e _ _
      rcases hh with hh | ⟨b, o, e2, _⟩
      · exact hh
      · rw [← e] at e2; cases e2
    refine (lentE_nil l.length c w1).mono ?_
    rintro e w2 ⟨rfl, rfl⟩
    refine ⟨none, 0, 0, rfl, Below.refl _ _, ?_, Or.inl ⟨_, _, rfl, rfl⟩⟩
    subst hl0
    exact ⟨none, 0, rfl, Nat.le_refl _, by unfold maxLen; omega, Or.inl rfl⟩
  | some ad =>
    refine (lentE_some ad c l w1 h hl).mono ?_
    rintro e w2 ⟨rfl, hb, cs0, h0, hB⟩
    exact ⟨_, _, _, rfl, hb, rdE_lent hB hl, Or.inr ⟨ad, c, cs0, rfl, rfl, h0, hB⟩⟩

theorem pack_both (l : List Ent) : ∃ (F : Int) (L : List Int), L.length ≤ 500004 ∧ Bts L ∧
    (∀ (w : World) (v : Value), RdE w v l → Tab w → Calls Tryz.prog 113 #[v] w fun e w' => ∃ a c, e = .returned (.tuple #[.slice a L.length c, .int .i64 F]) ∧ CurB w w' (.slice a L.length c) L ∧ (F = 0 ∨ a = none)) ∧
    (∀ (w : World) (v : Value), RdE w v l → Calls Tryz.prog 63 #[v] w fun e w' => e = .returned (.tuple #[.string (strOfNums L), .int .i64 F]) ∧ Below w.heap.size w w') := by
  by_cases hS : Seg l
  · refine ⟨0, pk l, ?_, pk_bts l hS.2.1, fun w v hv hT => ?_, fun w v hv => refPack_yes v l w hv hS⟩
    · have := body_len hS
      unfold pk
      rw [List.length_append, num_len]
      omega
    · refine (pack_yes v l w hv hT hS).mono ?_
      rintro e w' ⟨v', rfl, hc⟩
      obtain ⟨a, c, rfl, _, _⟩ := own_slice hc.2
      exact ⟨a, c, rfl, hc, Or.inl rfl⟩
  · refine ⟨2, [], by simp, bts_nil, fun w v hv hT => ?_, fun w v hv => ?_⟩
    · refine (pack_not v l w hv hS).mono ?_
      rintro e w' ⟨rfl, hb⟩
      exact ⟨none, 0, rfl, ⟨hb, World.ownsRow_nil _ _ _ _⟩, Or.inr rfl⟩
    · refine (refPack_no v l w hv hS).mono ?_
      rintro e w' ⟨rfl, hb⟩
      exact ⟨rfl, hb⟩

theorem whole_both {w0 w1 w2 w5 w6 wr : World} {B wb : Nat} {vi x tv tv' : Value} {l : List Ent} {N n : Nat} {xs ys : List Value} {C D : Array Value} {Q : Qd} {f : Nat → Value} {M : Nat} (hLP : LP w1 w2 vi x l) (hl : l.length ≤ 1048576) (h0 : RdE wr vi l) (hr : Below wr.heap.size wr w6) (hr1 : wr.heap.size ≤ w1.heap.size) (h01 : w0.heap.size ≤ w1.heap.size) (hb25 : Below w2.heap.size w2 w5)
    (hK : Kept w5 w6 w2.heap.size wb 9 B 160 5 1 f tv tv' N xs C Q n) (hD : w5.heap[wb]? = some (Obj.cells D 91 (0, 0))) (hrow : w5.ownsRow B 160 5 tv M ys) (hA : Aft w0 w6 B wb 9 160 5 1 f tv tv' N xs C Q n) :
    Calls Tryz.prog 116 #[x, vi] w6 fun e w7 => e = .returned (.bool true) ∧ Aft w0 w7 B wb 9 160 5 1 f tv tv' N xs C Q n := by
  rcases hLP with ⟨n0, c0, rfl, rfl⟩ | ⟨ad, c, cs0, rfl, rfl, hcs, hB⟩
  · refine (wholeE_nil _ n0 c0 w6).mono ?_
    rintro e w7 ⟨rfl, rfl⟩
    exact ⟨rfl, hA⟩
  · have hlt := (Array.getElem?_eq_some_iff.1 hB).1
    have hB6 : Blk w6 w1.heap.size 66 (lentE l cs0 3) := kept_at hK hlt ((hb25.block _ hlt).trans hB) hD hrow (by decide) (by decide)
    refine (wholeE_some wr w6 w1.heap.size ad c l cs0 h0 hr hr1 hl hcs hB6).mono ?_
    rintro e w7 ⟨rfl, hg⟩
    exact ⟨rfl, hA.only hg hB6 (by decide) (by decide) (by decide) h01⟩

theorem SI.more {w : World} {B wb : Nat} {g0 g1 g2 g3 : Value} {M : Nat} (h : SI w B wb g0 g1 g2 g3 M) : SI w B wb g0 g1 g2 g3 (M + 1) := by
  obtain ⟨kb, kt, ke, C, Nb, Nt, Ne, hI, h1, h2, h3⟩ := h
  exact ⟨kb, kt, ke, C, Nb, Nt, Ne, hI, by omega, by omega, by omega⟩
theorem SI.below {w w' : World} {B wb : Nat} {g0 g1 g2 g3 : Value} {M : Nat} (h : SI w B wb g0 g1 g2 g3 M) (hb : Below w.heap.size w w') : SI w' B wb g0 g1 g2 g3 M := by
  obtain ⟨kb, kt, ke, C, Nb, Nt, Ne, hI, h1, h2, h3⟩ := h
  exact ⟨kb, kt, ke, C, Nb, Nt, Ne, ⟨(hb.block wb (Array.getElem?_eq_some_iff.1 hI.blk).1).trans hI.blk, hI.ge, hI.cs, hI.bb.below hb, hI.bt.below hb, hI.be.below hb⟩, h1, h2, h3⟩

set_option maxHeartbeats 1000000 in
set_option maxRecDepth 100000 in
theorem seg_pack_none (Win w : World) (wb : Nat) (g0 g1 g3 : Value) (ga : Option Addr) (gc : Nat) (M : Nat) (A Bv Cv : Int) (S T : ByteArray) (hW : Below Win.heap.size Win w) (hSI : SI w Win.heap.size wb g0 g1 (.slice ga 0 gc) g3 M) :
    Calls Tryz.prog 65 #[.pointer (some ⟨wb, 0, none⟩), .agg #[.int .i64 8, .int .i64 A, .int .i64 Bv, .int .i64 Cv, .string S, .string T]] w fun e w' => e = .returned (.bool true) ∧ Below Win.heap.size Win w' ∧ SI w' Win.heap.size wb g0 g1 (.slice ga 0 gc) g3 (M + 1) ∧ KeepO w w' := by
  have HSI := hide hSI
  have HW := hide hW
  have hsw := hW.size
  obtain ⟨kb, kt, ke, C, Nb, Nt, Ne, hI, h1, h2, h3⟩ := hSI
  have hwl : wb < w.heap.size := (Array.getElem?_eq_some_iff.1 hI.blk).1
  have cw := (cell_of (j := 2) (u := .slice ga 0 gc) hI.blk (by rw [hI.cs]; rfl)).1
  have HB1 := hide (below_alloc w (Obj.cells #[.int .i64 8, .int .i64 A, .int .i64 Bv, .int .i64 Cv, .string S, .string T] 94))
  have cw1 := (HB1.out.cell (p := ⟨wb, 2, none⟩) hwl).trans cw
  clear hI hW
  go_enter Tryz.func65, Tryz.ntmps65
  go_wp2
  go_ret
  exact ⟨rfl, HW.out.trans (HB1.out.mono hsw), (HSI.out.below HB1.out).more, keepO_below HB1.out⟩

set_option maxRecDepth 100000 in
set_option maxHeartbeats 4000000 in
theorem seg_pack (Win w : World) (wb : Nat) (g0 g1 g2 g3 : Value) (Es : List (List Ent)) (M : Nat) (A Bv Cv : Int) (S T : ByteArray) (hW : Below Win.heap.size Win w) (hSI : SI w Win.heap.size wb g0 g1 g2 g3 M) (hT : Tab Win) (hG : RdEE Win g2 Es) (hEl : ∀ E ∈ Es, E.length ≤ 1048576) (hEs : Es.length ≤ 1048576) (hA0 : -9223372036854775808 ≤ A) (hA1 : A < 9223372036854775808) (hM : M ≤ 1048576) :
    Calls Tryz.prog 65 #[.pointer (some ⟨wb, 0, none⟩), .agg #[.int .i64 8, .int .i64 A, .int .i64 Bv, .int .i64 Cv, .string S, .string T]] w fun e w' => e = .returned (.bool true) ∧ Below Win.heap.size Win w' ∧ SI w' Win.heap.size wb g0 g1 g2 g3 (M + 1) ∧ KeepO w w' := by
  obtain ⟨ga, gc, rfl, hgc, hgm, hge⟩ := hG
  unfold maxLen at hgm
  rcases hge with hge | ⟨gb, go, rfl, hge⟩
  · subst hge
    exact seg_pack_none Win w wb g0 g1 g3 ga gc M A Bv Cv S T hW hSI
  by_cases hz : Es.length = 0
  · rw [hz] at hSI ⊢
    exact seg_pack_none Win w wb g0 g1 g3 _ gc M A Bv Cv S T hW hSI
  obtain ⟨r, hr0, hr1, hpk⟩ := pick_fix A (Es.length : Int) hA0 hA1 (by omega) (by omega)
  obtain ⟨i, rfl⟩ := Int.eq_ofNat_of_zero_le hr0
  have hi : i < Es.length := by omega
  obtain ⟨vi, hvi, hRi⟩ := hge i hi
  have hli : (Es.getD i []).length ≤ 1048576 := hEl _ (by rw [List.getD, List.getElem?_eq_getElem hi]; exact List.getElem_mem _)
  generalize Es.getD i [] = l at *
  obtain ⟨F, L, hL, hLb, hP, hQ⟩ := pack_both l
  have HP := hide hP
  have HQ := hide hQ
  have HRI := hide hRi
  obtain ⟨kb, kt, ke, C, Nb, Nt, Ne, hI, h1, h2, h3⟩ := hSI
  obtain ⟨q, hrow, hall⟩ := hI.bb
  have HI := hide hI
  have HROW := hide hrow
  have HALL := hide hall
  have HW := hide hW
  have HT := hide hT
  have hsw := hW.size
  have hct : Hid (C[9]? = some kb) := by show _ = _; rw [hI.cs]; rfl
  have hcs : Hid (C.size = 15) := by show _ = _; rw [hI.cs]; rfl
  have hwl : wb < w.heap.size := (Array.getElem?_eq_some_iff.1 hI.blk).1
  have cw := (cell_of (j := 2) (u := .slice (some ⟨gb, go, none⟩) Es.length gc) hI.blk (by rw [hI.cs]; rfl)).1
  have HO := hide (opCells w 8 A Bv Cv S T)
  have HB1 := hide (below_alloc w (Obj.cells #[.int .i64 8, .int .i64 A, .int .i64 Bv, .int .i64 Cv, .string S, .string T] 94))
  have hlt1 : w.heap.size < (w.alloc (Obj.cells #[.int .i64 8, .int .i64 A, .int .i64 Bv, .int .i64 Cv, .string S, .string T] 94)).heap.size := by simp
  have cw1 := (HB1.out.cell (p := ⟨wb, 2, none⟩) hwl).trans cw
  have hgbl : gb < Win.heap.size := World.block_lt_of_cell? _ _ hvi
  have ci1 := (HB1.out.cell (p := ⟨gb, go + i, none⟩) (show gb < w.heap.size by omega)).trans ((hW.cell (p := ⟨gb, go + i, none⟩) hgbl).trans hvi)
  obtain ⟨va, vc, rfl, hvc, hvm⟩ := rdE_len hRi
  unfold maxLen at hvm
  have hEn : (0 : Int) < (Es.length : Int) := by omega
  have HPK := hide hpk
  have cA := (cell_of (j := 1) (u := .int .i64 A) HO.out rfl).1
  clear hI hrow hall hW hT hP hQ hRi hge hvi hpk cw hEl
  generalize hEsn : Es.length = m at *
  clear hEsn
  go_enter Tryz.func65, Tryz.ntmps65
  go_wp2_with fail
  generalize w.alloc (Obj.cells #[.int .i64 8, .int .i64 A, .int .i64 Bv, .int .i64 Cv, .string S, .string T] 94) = w1 at *
  have d1 := cell_regrown cw1
  have d2 := cell_regrown cA
  have d3 := cell_regrown ci1
  have CP := hide (fun d os => Calls.regrown_of (w := w1) (d := d) (os := os) ((HPK.out (Sort.grow (redrawn w1 d) os)).mono fun e w' q => ⟨q.1, by rw [q.2]; exact Below.refl _ _⟩))
  have z1 : (i : Int) < (m : Int) := hr1
  clear cw1 cA ci1
  refine wp_region_quiet_below (by kernel_rfl) (by kernel_rfl) ?_
  repeat (go_big_quiet_step (first | (go_at_call 15; exact CP.out _ _)))
  refine wpQuiet_nil ?_
  intro _ hw'
  obtain ⟨⟨dq, osq⟩, hw''⟩ := hw'
  subst hw''
  have HBQ := hide (below_regrown w1 dq osq)
  clear d1 d2 d3 CP
  generalize Sort.grow (redrawn w1 dq) osq = w2 at *
  have hs2 := HBQ.out.size
  have HB02 : Hid (Below w.heap.size w w2) := by
    show Below _ _ _
    exact HB1.out.trans (HBQ.out.mono (by omega))
  have HW2 := hide (HW.out.trans (HB02.out.mono hsw))
  have CL := hide (lent_both w2 _ l (HRI.out.below HW2.out) hli)
  go_wp2_with fail
  refine CL.out.mono ?_
  rintro e w3 ⟨xa, xn, xc, rfl, hb3, hx3, hLP⟩
  have HB3 := hide hb3
  have HX3 := hide hx3
  have HLP := hide hLP
  have hs3 := hb3.size
  have HW3 := hide (HW2.out.trans (hb3.mono HW2.out.size))
  have CP := hide (HP.out w3 _ hx3 (HT.out.below HW3.out (Nat.le_refl _)))
  clear hb3 hx3 hLP CL
  go_wp2_with fail
  refine CP.out.mono ?_
  rintro e w4 ⟨ba, bc, rfl, hc4, hF⟩
  have HC4 := hide hc4
  have hs4 := hc4.1.size
  have HW4 := hide (HW3.out.trans (hc4.1.mono HW3.out.size))
  have CQ := hide (HQ.out w4 _ (HRI.out.below HW4.out))
  clear hc4 CP
  go_wp2_with fail
  refine CQ.out.mono ?_
  rintro e w5 ⟨rfl, hb5⟩
  have hs5 := hb5.size
  have HC5 := hide (curB_below HC4.out hb5)
  have hcv := conv_any (rdB_own HC5.out.2)
  have hnil : (binOp .eql 158 (.slice ba L.length bc) (.slice none 0 0)).run Tryz.prog w5 = .ok (.bool ba.isNone) w5 := eql_nil w5 158 5 ba L.length bc 0 0 Tryz.underlying158
  have heq : ((strOfNums L).toList == (strOfNums L).toList) = true := by simp
  have HB05 : Hid (Below w.heap.size w w5) := by
    show Below _ _ _
    have q1 := HB02.out.trans (HB3.out.mono (by omega))
    exact q1.trans (HC5.out.1.mono (by omega))
  have HB35 := hide HC5.out.1
  have HBW5 := hide ((HB05.out.block wb (by omega)).trans HI.out.blk)
  have HRW5 := hide (own_same HROW.out (fun g hg => HB05.out.block g (own_block HROW.out hg).2.1))
  have CK := hide (keepBytes_any w5 w3.heap.size wb Win.heap.size _ kb _ Nb _ _ C HC5.out.2 (by omega) (by omega) HBW5.out hcs.out hct.out HRW5.out (fun g hg => by have := (own_block HROW.out hg).2.1; omega) (by omega) (by omega) (by omega))
  clear hb5 CQ
  generalize strOfNums L = SL at *
  cases ba with
  | none =>
    simp only [Option.isNone_none] at hnil
    go_wp2_with (first | (go_at_call 114; refine (num_any _ _).mono ?_; rintro e w' ⟨rfl, hw⟩; rw [hw]; clear hw w'))
    clear hcv hnil heq
    refine CK.out.mono ?_
    rintro e w6 ⟨rfl, tv', va', vb', vc', hK⟩
    have HA6 := hide (aft_of HB05.out (by omega) hK)
    have HW6 : Hid (Below Win.heap.size Win w6) := HW.out.trans (HA6.out.frame HI.out.ge HROW.out hsw)
    have CW := hide (whole_both (wr := Win) (w0 := w) HLP.out hli HRI.out HW6.out (by omega) (by omega) HB35.out hK HBW5.out HRW5.out HA6.out)
    clear hK CK
    go_wp2_with fail
    refine CW.out.mono ?_
    rintro e w7 ⟨rfl, hA7⟩
    have HA7 := hide hA7
    clear hA7 CW
    go_wp2
    go_ret
    exact ⟨rfl, HW.out.trans (HA7.out.frame HI.out.ge HROW.out hsw), sinv_byte HI.out HROW.out HALL.out HA7.out (by omega) h1 h2 h3, HA7.out.keepO HI.out.blk HROW.out (by decide)⟩
  | some bad =>
    simp only [Option.isNone_some] at hnil
    have hF0 : F = 0 := by rcases hF with q | q; exact q; cases q
    subst hF0
    go_wp2_with (first | (go_at_call 114; refine (num_any _ _).mono ?_; rintro e w' ⟨rfl, hw⟩; rw [hw]; clear hw w'))
    clear hcv hnil heq
    refine CK.out.mono ?_
    rintro e w6 ⟨rfl, tv', va', vb', vc', hK⟩
    have HA6 := hide (aft_of HB05.out (by omega) hK)
    have HW6 : Hid (Below Win.heap.size Win w6) := HW.out.trans (HA6.out.frame HI.out.ge HROW.out hsw)
    have CW := hide (whole_both (wr := Win) (w0 := w) HLP.out hli HRI.out HW6.out (by omega) (by omega) HB35.out hK HBW5.out HRW5.out HA6.out)
    clear hK CK
    go_wp2_with fail
    refine CW.out.mono ?_
    rintro e w7 ⟨rfl, hA7⟩
    have HA7 := hide hA7
    clear hA7 CW
    go_wp2
    go_ret
    exact ⟨rfl, HW.out.trans (HA7.out.frame HI.out.ge HROW.out hsw), sinv_byte HI.out HROW.out HALL.out HA7.out (by omega) h1 h2 h3, HA7.out.keepO HI.out.blk HROW.out (by decide)⟩
end Go.Proofs.YtkncboinfcnklaaGreatDoor
