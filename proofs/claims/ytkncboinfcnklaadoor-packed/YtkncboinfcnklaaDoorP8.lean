import Derived.Test.YtkncboinfcnklaaDoorP7
namespace Go.Proofs.YtkncboinfcnklaaDoor
open Go.RowKit Go.Deep Go.Proofs.YtkncboinfcnklaaDoor.Mth

theorem Tryd.info45 : (Tryd.prog.info? 45).map (fun i => (i.zero, i.size, i.bytes)) = some (some (.slice none 0 0), 1, 24) := by kernel_rfl

theorem mk_at (w : World) (n : Nat) (hn : n ≤ 64) : (Instr.makeSlice 44 (.int .i64 (n : Int)) (.int .i64 (n : Int))).run Tryd.prog w = .ok (.slice (some ⟨w.heap.size, 0, none⟩) n n) (w.alloc (.cells (Array.replicate n (Value.slice none 0 0)) 45)) := by
  obtain ⟨i0, hi0, hz0, hz1, hz2⟩ := info_parts Tryd.info45
  have := run_makeSlice (P := Tryd.prog) w 44 45 i0 (.slice none 0 0) Tryd.underlying44 hi0 hz0 .i64 .i64 n n (by omega) (by omega) (by rw [hz1]; omega) (by rw [hz2]; omega) (by omega)
  have e : madeCells (Value.slice none 0 0).cells n = Array.replicate n (Value.slice none 0 0) := by
    apply Array.ext
    · simp [madeCells]
    · intro i h1 h2
      simp [madeCells, Value.cells, Nat.mod_one]
  rw [hz1, Int.toNat_natCast, Nat.mul_one, e] at this
  exact this

theorem curB_below {w0 w w' : World} {v : Value} {l : List Int} (h : CurB w0 w v l) (hb : Below w.heap.size w w') : CurB w0 w' v l :=
  ⟨h.1.trans (hb.mono h.1.size), h.2.kept (row := none) ⟨hb.os, hb.tape, hb.output, hb.size, fun k hk _ => hb.block k hk⟩ (by cases v.ownBlock <;> simp)⟩

/-- Words are taken off the lists: the bytes stand. -/
theorem curB_lists {w0 w w' : World} {v : Value} {l : List Int} {lb : Nat} {Ls : List (List ByteArray)} (h : CurB w0 w v l) (hL : LB w lb Ls) (hlb : w0.heap.size ≤ lb) (hg : w.grownBy w' (some lb)) : CurB w0 w' v l :=
  ⟨h.1.grown hg h.1.size (fun k e => by injection e with e; omega), h.2.kept hg (own_ne_lb hL h.2)⟩

set_option maxRecDepth 100000 in
set_option maxHeartbeats 4000000 in
theorem appIndex_any (w0 w : World) (v ve : Value) (B : List Int) (l : List Ent) (h : CurB w0 w v B) (hE : RdE w0 ve l) (hT : Tab w0) (h1 : 1 ≤ l.length) (h64 : l.length ≤ 64) (htx : ∀ e ∈ l, e.text.size ≤ 60) (hB : B.length ≤ 5000) :
    Calls Tryd.prog 11 #[v, ve] w fun e w' => ∃ v', e = .returned v' ∧ CurB w0 w' v' (B ++ idx l) := by
  have HC := hide h
  have HE := hide hE
  have HT := hide hT
  have HTX := hide htx
  obtain ⟨a, c, rfl, hc, hm⟩ := rdE_len hE
  unfold maxLen at hm
  have hsz0 := h.1.size
  have hidx : Hid (idx l = num (mw l).length 2 ++ idxGo (mw l) (ws l)) := rfl
  have hmw := mw_len l htx
  have HMS := hide (fun x hx => mw_size l htx (x := x) hx)
  have hfb := flat_bd l htx
  have hwl : Hid ((ws l).length = l.length) := List.length_map ..
  clear h hE hT htx
  obtain ⟨i0, hi0, hz0, hz1, hz2⟩ := info_parts Tryd.info5
  have hmk := mk_at w l.length h64
  have HLB0 := hide (lb_new w l _ rfl)
  have hB0 := below_alloc w (.cells (Array.replicate l.length (Value.slice none 0 0)) 45)
  have HB0 := hide hB0
  generalize w.alloc (.cells (Array.replicate l.length (Value.slice none 0 0)) 45) = W1 at *
  have hLs := fun k => lsTo_len l k
  have hLf := lsTo_full l
  generalize hn : l.length = n at *
  have HN := hide hn
  have HLS := hide hLs
  have HLF := hide hLf
  have hlbw : w.heap.size < W1.heap.size := by obtain ⟨C, h1, _⟩ := HLB0.out; exact (Array.getElem?_eq_some_iff.1 h1).1
  generalize hlb : w.heap.size = lb at *
  have HLBE := hide hlb
  clear hn hB0 hLs hLf hlb
  go_enter Tryd.func11, Tryd.ntmps11
  go_wp2_with fail
  clear hmk
  go_loopw [17] (fun i wr => ∃ k : Nat, k ≤ n ∧ i = .int .i64 k ∧ Below lb w wr ∧ LB wr lb (lsTo l k)) (fun i _ => n - (intOf i).toNat)
  case atStart => exact ⟨0, Nat.zero_le _, rfl, HB0.out, HLB0.out⟩
  case round =>
    obtain ⟨k, hk, rfl, hb, hL⟩ := hrel
    by_cases hlt : k < n
    · obtain ⟨⟨u0, hu0⟩, hfz⟩ := hL.at k (by rw [HLS.out]; exact hlt)
      have hw0 := HC.out.1.trans (hb.mono hsz0)
      have hrd := HE.out
      obtain ⟨b, o, rfl, hblt, c0, c1, c2⟩ := rdE_at hrd k (by rw [HN.out]; exact hlt)
      have c0' := (hw0.cell (p := ⟨b, o + k * 3, none⟩) hblt).trans c0
      have c1' := (hw0.cell (p := ⟨b, o + k * 3 + 1, none⟩) hblt).trans c1
      have c2' := (hw0.cell (p := ⟨b, o + k * 3 + 2, none⟩) hblt).trans c2
      have hxs : (l.getD k e0).text.size ≤ 60 := HTX.out _ (by rw [List.getD, List.getElem?_eq_getElem (by rw [HN.out]; exact hlt)]; exact List.getElem_mem _)
      have htab := HT.out.below hw0 (Nat.le_refl _)
      have hnew := lsTo_get (l := l) (k := k + 1) (i := k) (by rw [HN.out]; exact hlt)
      rw [if_pos (by omega)] at hnew
      generalize l.getD k e0 = e at *
      obtain ⟨s, t, x⟩ := e
      simp only at c0' c1' c2' hxs hnew
      have hbsz := hb.size
      have CW := hide (words_any x (wr.alloc (Obj.cells #[Value.int IntKind.i64 s, Value.int IntKind.i64 t, Value.string x] 31)) (htab.below (below_alloc wr _) (Nat.le_refl _)) hxs)
      have HNEW := hide hnew
      have HB := hide hb
      have HL := hide hL
      have hlbr : lb < wr.heap.size := by obtain ⟨C, h1, _⟩ := hL; exact (Array.getElem?_eq_some_iff.1 h1).1
      have hkn : (k : Int) < (n : Int) := by omega
      clear hnew hb hL hrd c0 c1 c2 hw0 htab HLB0 HB0
      go_wp2_with (go_at_call 18; refine CW.out.mono ?_; rintro e w2 ⟨v2, rfl, hb2, hr2⟩; have hb3 := (below_alloc wr (Obj.cells #[Value.int IntKind.i64 s, Value.int IntKind.i64 t, Value.string x] 31)).trans (hb2.mono (below_alloc wr _).size); have d0 : w2.cell? ⟨lb, k, none⟩ = some u0 := (hb3.cell (p := ⟨lb, k, none⟩) hlbr).trans hu0; have d1 : w2.frozen? ⟨lb, k, none⟩ = false := (World.frozen?_of_block (w := wr) (a := ⟨lb, k, none⟩) (hb3.block lb hlbr)).trans hfz; have HB3 := hide hb3; have HR2 := hide hr2; have hq := rd_len hr2.1; clear hb2 hr2 hb3; obtain ⟨a2, c2x, rfl, _, _⟩ := hq)
      go_roundw
      case rel =>
        refine ⟨k + 1, by omega, by go_num, (HB.out.trans (HB3.out.mono (by rw [← HLBE.out]; exact hbsz))).setCell (Nat.le_refl _) _, ?_⟩
        refine LB.put (HL.out.below HB3.out) (by rw [HLS.out, HLS.out]) (by rw [HNEW.out]; exact HR2.out) ?_
        intro i hi hne
        rw [HLS.out, ← HN.out] at hi
        rw [lsTo_get hi, lsTo_get hi]
        have e : (i < k + 1) ↔ (i < k) := by omega
        simp only [e]
      case measure => simp [intOf]; omega
    · have hke : k = n := by omega
      subst hke
      have hw0 := HC.out.1.trans (hb.mono hsz0)
      rw [show lsTo l k = ws l from HLF.out] at hL
      have hrl := hL.rdL (by rw [hwl.out]; exact h64)
      rw [show (ws l).length = k from hwl.out] at hrl
      have MG := hide (merge_any hrl (by omega))
      have HCw := hide (curB_below HC.out (by rw [HLBE.out]; exact hb))
      have HL := hide hL
      have hlbr : lb < wr.heap.size := by obtain ⟨C, h1, _⟩ := hL; exact (Array.getElem?_eq_some_iff.1 h1).1
      clear hb hL hrl hw0 HLB0 HB0 HC
      go_wp2_with fail
      refine MG.out.mono ?_
      rintro e w3 ⟨v3, rfl, hc3⟩
      have hRW : RdT w3 v3 (mw l) := ⟨cur_rd hc3, t9_own hc3.2⟩
      have HCw3 := hide (curB_below HCw.out hc3.1)
      have HL3 := hide (HL.out.below hc3.1)
      have HRW := hide hRW
      obtain ⟨a3, c3, rfl, hc3a, hc3b⟩ := rd_len hRW.1
      unfold maxLen at hc3b
      have hidx' := hidx.out
      generalize hmm : mw l = M at *
      generalize hmn : M.length = m at *
      have HMN := hide hmn
      clear hmn hmm hRW hc3 MG
      go_wp2_with (go_at_call 9; refine (appNum_any w0 w3 v B (m : Int) 2 HCw3.out (by omega) (by omega) (by omega) (by omega)).mono ?_; rintro e w4 ⟨v4, rfl, hc4, hg4⟩; have hk4 := hg4.keep5 HCw3.out.2; have HC4 := hide hc4; have HL4 := hide (HL3.out.keep5 hk4); have HR4 := hide (HRW.out.keep5 hk4); clear hc4 hg4 hk4)
      have HI := hide hidx'
      clear hidx'
      go_loopw [0, 37] (fun b i wr => ∃ (j : Nat) (B' : List Int) (Ls : List (List ByteArray)), j ≤ m ∧ i = .int .i64 j ∧ CurB w0 wr b B' ∧ Ls.length = k ∧ LB wr lb Ls ∧ RdT wr (.slice a3 m c3) M ∧ B' ++ idxGo (M.drop j) Ls = B ++ idx l ∧ B'.length ≤ 5002 + 126 * j) (fun _ i _ => m - (intOf i).toNat)
      case atStart => exact ⟨0, _, ws l, Nat.zero_le _, rfl, HC4.out, hwl.out, HL4.out, HR4.out, by rw [HI.out, List.drop_zero, List.append_assoc], by rw [List.length_append, num_len]; omega⟩
      case round =>
        obtain ⟨j, B', Ls, hj, rfl, hcb, hll, hlbn, hrt, heq, hbl⟩ := hrel
        by_cases hlt2 : j < m
        · obtain ⟨b3, o3, rfl, hcx⟩ := rd_get hrt.1 j (by rw [HMN.out]; exact hlt2)
          have hdrop := idx_drop (W := M) (k := j) (by rw [HMN.out]; exact hlt2) Ls
          have hxs : (M.getD j ByteArray.empty).size ≤ 60 := HMS.out _ (by rw [List.getD, List.getElem?_eq_getElem (by rw [HMN.out]; exact hlt2)]; exact List.getElem_mem _)
          rw [hll] at hdrop
          have htk := fun x => takeFirst_any lb k k Ls x wr hlbn hll (Nat.le_refl _) h64
          have hhl := fun x => havTo_len Ls x k
          generalize M.getD j ByteArray.empty = x at *
          have htk := hide (htk x)
          have hhl := hhl x
          have HDR := hide hdrop
          have HCB := hide hcb
          have HLB := hide hlbn
          have HRT := hide hrt
          have HEQ := hide heq
          have HLLN := hide hll
          have hszr := hcb.1.size
          have hlbr2 : lb < wr.heap.size := by obtain ⟨C, h1, _⟩ := hlbn; exact (Array.getElem?_eq_some_iff.1 h1).1
          generalize hhv : havTo Ls x k = H at *
          have HHV := hide hhv
          clear hdrop hcb hlbn hrt heq hll hhv
          go_wp2_with fail
          refine htk.out.mono ?_
          rintro e w5 ⟨v5, rfl, hg5, hl5, ho5⟩
          have HC5 := hide (curB_lists HCB.out HLB.out (by omega) hg5)
          have HR5 := hide (rd_now HLB.out HRT.out hg5)
          have HL5 := hide hl5
          have hne5 : v5.ownBlock = none ∨ v5.ownBlock ≠ u0.ownBlock := by
            cases h5 : v5.ownBlock with
            | none => exact Or.inl rfl
            | some g =>
              refine Or.inr fun e => ?_
              have q1 := ho5.lt g h5
              have q2 := HCB.out.2.lt g e.symm
              omega
          have HO5 := hide ho5
          have HNE5 := hide hne5
          clear hg5 hl5 ho5 hne5 htk
          generalize hq : H.length = q at *
          have HQ := hide hq
          clear hq
          have hqq : (q : Int) % 256 = q := by omega
          rw [hqq] at HDR
          clear hqq
          rcases HO5.out.2 with ⟨h0, hq0⟩ | ⟨g5, cap5, cur5, hv5, _, _, hcap5, hcap5', _⟩
          · subst h0
            subst hq0
            go_wp2_with fail
            refine (appText_any w0 w5 u0 B' x HC5.out (by omega) (by omega)).mono ?_
            rintro e w6 ⟨v6, rfl, hc6, hg6⟩
            have hk6 := hg6.keep5 HC5.out.2
            have HC6 := hide hc6
            have HL6 := hide (HL5.out.keep5 hk6)
            have HR6 := hide (HR5.out.keep5 hk6)
            have HO6 := hide (hg6.own HO5.out HNE5.out)
            have hl6 : (B' ++ (((x.size : Int) % 256) :: tb x)).length ≤ 5002 + 126 * j + 61 := by rw [List.length_append, List.length_cons, tb_len]; omega
            have HHB : Hid (B' ++ (((x.size : Int) % 256) :: tb x) = B' ++ (((x.size : Int) % 256) :: tb x)) := rfl
            have hsz6 := hc6.1.size
            clear hc6 hg6 hk6
            generalize hB6 : B' ++ (((x.size : Int) % 256) :: tb x) = B6 at *
            have HB6 := hide hB6
            clear hB6
            go_wp2_with (first | (at_builtin; refine wpList_append_own_at _ rfl (.tmp 47) (.tmp 51) 24 rfl w0.heap.size 5 i0 (.int .u8 0) 1 1 Tryd.underlying24 hi0 hz0 hz1 hz2 rfl (by decide) _ _ _ rfl (HC6.out.2.alloc _) ⟨w6.heap.size, 0, none⟩ 1 1 [.int .u8 0] rfl rfl (cell_one_new _ _ _) (by intro u hu; simp at hu; subst hu; rfl) (by unfold maxLen; omega) (by omega) (by simp; omega) ?_; intro v7 w7 hown7 hgrow7 _ hat7; have HC7 := hide (curB_append HC6.out hown7 hgrow7); have hg7 := gr_append hgrow7 hat7; have hk7 := hg7.keep5 HC6.out.2; have HL7 := hide (HL6.out.keep5 hk7); have HR7 := hide (HR6.out.keep5 hk7); have HO7 := hide (hg7.own HO6.out.1 HO6.out.2); have hsz7 := HC7.out.1.size; have hl7 : (B6 ++ [(0 : Int)]).length = B6.length + 1 := (by simp); clear hown7 hgrow7 hat7 hg7 hk7) | (at_builtin; refine wpList_append_own_none rfl (.tmp 53) (.tmp 54) 24 rfl w0.heap.size 5 i0 1 Tryd.underlying24 hi0 _ _ _ rfl HC7.out.2 rfl ?_))
            go_roundw
            case rel =>
              have hH : H = [] := List.length_eq_zero_iff.1 HQ.out
              refine ⟨j + 1, _, rstTo Ls x k, by omega, by go_num, HC7.out, by rw [rstTo_len]; exact HLLN.out, HL7.out, HR7.out, ?_, by omega⟩
              rw [← HEQ.out, HDR.out, ← HB6.out, hH]
              simp [List.append_assoc]
            case measure => simp [intOf]; omega
          · subst hv5
            unfold maxLen at hcap5'
            go_wp2_with fail
            refine (appText_any w0 w5 u0 B' x HC5.out (by omega) (by omega)).mono ?_
            rintro e w6 ⟨v6, rfl, hc6, hg6⟩
            have hk6 := hg6.keep5 HC5.out.2
            have HC6 := hide hc6
            have HL6 := hide (HL5.out.keep5 hk6)
            have HR6 := hide (HR5.out.keep5 hk6)
            have HO6 := hide (hg6.own HO5.out HNE5.out)
            have hl6 : (B' ++ (((x.size : Int) % 256) :: tb x)).length ≤ 5002 + 126 * j + 61 := by rw [List.length_append, List.length_cons, tb_len]; omega
            have HHB : Hid (B' ++ (((x.size : Int) % 256) :: tb x) = B' ++ (((x.size : Int) % 256) :: tb x)) := rfl
            have hsz6 := hc6.1.size
            clear hc6 hg6 hk6
            generalize hB6 : B' ++ (((x.size : Int) % 256) :: tb x) = B6 at *
            have HB6 := hide hB6
            clear hB6
            go_wp2_with (first | (at_builtin; refine wpList_append_own_at _ rfl (.tmp 47) (.tmp 51) 24 rfl w0.heap.size 5 i0 (.int .u8 0) 1 1 Tryd.underlying24 hi0 hz0 hz1 hz2 rfl (by decide) _ _ _ rfl (HC6.out.2.alloc _) ⟨w6.heap.size, 0, none⟩ 1 1 [.int .u8 (q : Int)] rfl rfl (cell_one_new _ _ _) (by intro u hu; simp at hu; subst hu; rfl) (by unfold maxLen; omega) (by omega) (by simp; omega) ?_; intro v7 w7 hown7 hgrow7 _ hat7; have HC7 := hide (curB_append HC6.out hown7 hgrow7); have hg7 := gr_append hgrow7 hat7; have hk7 := hg7.keep5 HC6.out.2; have HL7 := hide (HL6.out.keep5 hk7); have HR7 := hide (HR6.out.keep5 hk7); have HO7 := hide (hg7.own HO6.out.1 HO6.out.2); have hsz7 := HC7.out.1.size; have hl7 : (B6 ++ [(q : Int)]).length = B6.length + 1 := (by simp); clear hown7 hgrow7 hat7 hg7 hk7) | (at_builtin; refine wpList_append_own _ rfl (.tmp 53) (.tmp 54) 24 rfl w0.heap.size 5 i0 (.int .u8 0) 1 1 Tryd.underlying24 hi0 hz0 hz1 hz2 rfl (by decide) _ _ _ rfl HC7.out.2 ⟨g5, 0, none⟩ q cap5 (H.map eB) rfl (by rw [List.length_map, HQ.out, Nat.mul_one]) (HO7.out.1.cells (g := g5) rfl) (by intro u hu; simp at hu; obtain ⟨z, _, rfl⟩ := hu; rfl) (by unfold maxLen; omega) (by omega) (by exact hsz7) ?_; intro v8 w8 hown8 hgrow8 _; have HC8 := hide (curB_more HC7.out HQ.out.symm hown8 hgrow8); have hk8 := keep5_grown HC7.out.2 hgrow8; have HL8 := hide (HL7.out.keep5 hk8); have HR8 := hide (HR7.out.keep5 hk8); clear hown8 hgrow8 hk8))
            go_roundw
            case rel =>
              refine ⟨j + 1, _, rstTo Ls x k, by omega, by go_num, HC8.out, by rw [rstTo_len]; exact HLLN.out, HL8.out, HR8.out, ?_, by rw [List.length_append, HQ.out]; omega⟩
              rw [← HEQ.out, HDR.out, ← HB6.out]
              simp only [List.append_assoc, List.cons_append, List.nil_append]
            case measure => simp [intOf]; omega
        · have hje : j = m := by omega
          subst hje
          have HCB := hide hcb
          have HEQ := hide heq
          clear hcb heq hlbn hrt
          go_wp2
          go_ret
          exact ⟨_, rfl, by have := HEQ.out; rw [List.drop_of_length_le (by rw [HMN.out]; exact Nat.le_refl _)] at this; simp only [idxGo, List.append_nil] at this; rw [← this]; exact HCB.out⟩
end Go.Proofs.YtkncboinfcnklaaDoor
