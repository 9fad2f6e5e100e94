import Derived.Test.YtkncboinfcnklaaGreatDoorPa
import Derived.Shelf.Bytes.SlSmallAll
namespace Go.Proofs.YtkncboinfcnklaaGreatDoor
open Go.RowKit Go.Deep Go.Proofs.YtkncboinfcnklaaGreatDoor.Mth

theorem Tryz.info58 : (Tryz.prog.info? 58).map (fun i => (i.zero, i.size, i.bytes)) = some (some (.slice none 0 0), 1, 24) := by kernel_rfl

theorem mk_at (w : World) (n : Nat) (hn : n ≤ 64) : (Instr.makeSlice 23 (.int .i64 (n : Int)) (.int .i64 (n : Int))).run Tryz.prog w = .ok (.slice (some ⟨w.heap.size, 0, none⟩) n n) (w.alloc (.cells (Array.replicate n (Value.slice none 0 0)) 58)) := by
  obtain ⟨i0, hi0, hz0, hz1, hz2⟩ := info_parts Tryz.info58
  have := run_makeSlice (P := Tryz.prog) w 23 58 i0 (.slice none 0 0) Tryz.underlying23 hi0 hz0 .i64 .i64 n n (by omega) (by omega) (by rw [hz1]; omega) (by rw [hz2]; omega) (by omega)
  have e : madeCells (Value.slice none 0 0).cells n = Array.replicate n (Value.slice none 0 0) := by
    apply Array.ext
    · simp [madeCells]
    · intro i h1 h2
      simp [madeCells, Value.cells, Nat.mod_one]
  rw [hz1, Int.toNat_natCast, Nat.mul_one, e] at this
  exact this

theorem curB_below {w0 w w' : World} {v : Value} {l : List Int} (h : CurB w0 w v l) (hb : Below w.heap.size w w') : CurB w0 w' v l :=
  ⟨h.1.trans (hb.mono h.1.size), h.2.kept (row := none) ⟨hb.os, hb.tape, hb.output, hb.size, fun k hk _ => hb.block k hk⟩ (by cases v.ownBlock <;> simp)⟩

/-- Words are taken off the lists: the bytes stand. -/
theorem curB_lists {w0 w w' : World} {v : Value} {l : List Int} {lb : Nat} {Ls : List (List ByteArray)} (h : CurB w0 w v l) (hL : LB w lb Ls) (hlb : w0.heap.size ≤ lb) (hg : w.grownBy w' (some lb)) : CurB w0 w' v l :=
  ⟨h.1.grown hg h.1.size (fun k e => by injection e with e; omega), h.2.kept hg (own_ne_lb hL h.2)⟩

set_option maxRecDepth 100000 in
set_option maxHeartbeats 4000000 in
theorem appIndex_any (w0 w : World) (v ve : Value) (B : List Int) (l : List Ent) (h : CurB w0 w v B) (hE : RdE w0 ve l) (hT : Tab w0) (h1 : 1 ≤ l.length) (h64 : l.length ≤ 64) (htx : ∀ e ∈ l, e.text.size ≤ 60) (hB : B.length ≤ 5000) :
    Calls Tryz.prog 193 #[v, ve] w fun e w' => ∃ v', e = .returned v' ∧ CurB w0 w' v' (B ++ idx l) := by
  have HC := hide h
  have HE := hide hE
  have HT := hide hT
  have HTX := hide htx
  obtain ⟨a, c, rfl, hc, hm⟩ := rdE_len hE
  unfold maxLen at hm
  have hsz0 := h.1.size
  have hidx : Hid (idx l = num (mw l).length 2 ++ idxGo (mw l) (ws l)) := rfl
  have hmw := mw_len l htx
  have HMS := hide (fun x hx => mw_size l htx (x := x) hx)
  have hfb := flat_bd l htx
  have hwl : Hid ((ws l).length = l.length) := List.length_map ..
  clear h hE hT htx
  obtain ⟨i0, hi0, hz0, hz1, hz2⟩ := info_parts Tryz.info5
  have hmk := mk_at w l.length h64
  have HLB0 := hide (lb_new w l _ rfl)
  have hB0 := below_alloc w (.cells (Array.replicate l.length (Value.slice none 0 0)) 58)
  have HB0 := hide hB0
  generalize w.alloc (.cells (Array.replicate l.length (Value.slice none 0 0)) 58) = W1 at *
  have hLs := fun k => lsTo_len l k
  have hLf := lsTo_full l
  generalize hn : l.length = n at *
  have HN := hide hn
  have HLS := hide hLs
  have HLF := hide hLf
  have hlbw : w.heap.size < W1.heap.size := by obtain ⟨C, h1, _⟩ := HLB0.out; exact (Array.getElem?_eq_some_iff.1 h1).1
  generalize hlb : w.heap.size = lb at *
  have HLBE := hide hlb
  clear hn hB0 hLs hLf hlb
  go_enter Tryz.func193, Tryz.ntmps193
  go_wp2_with fail
  clear hmk
  go_loopw [17] (fun i wr => ∃ k : Nat, k ≤ n ∧ i = .int .i64 k ∧ Below lb w wr ∧ LB wr lb (lsTo l k)) (fun i _ => n - (intOf i).toNat)
  case atStart => exact ⟨0, Nat.zero_le _, rfl, HB0.out, HLB0.out⟩
  case round =>
    obtain ⟨k, hk, rfl, hb, hL⟩ := hrel
    by_cases hlt : k < n
    · obtain ⟨⟨u0, hu0⟩, hfz⟩ := hL.at k (by rw [HLS.out]; exact hlt)
      have hw0 := HC.out.1.trans (hb.mono hsz0)
      have hrd := HE.out
      obtain ⟨b, o, rfl, hblt, c0, c1, c2⟩ := rdE_at hrd k (by rw [HN.out]; exact hlt)
      have c0' := (hw0.cell (p := ⟨b, o + k * 3, none⟩) hblt).trans c0
      have c1' := (hw0.cell (p := ⟨b, o + k * 3 + 1, none⟩) hblt).trans c1
      have c2' := (hw0.cell (p := ⟨b, o + k * 3 + 2, none⟩) hblt).trans c2
      have hxs : (l.getD k e0).text.size ≤ 60 := HTX.out _ (by rw [List.getD, List.getElem?_eq_getElem (by rw [HN.out]; exact hlt)]; exact List.getElem_mem _)
      have htab := HT.out.below hw0 (Nat.le_refl _)
      have hnew := lsTo_get (l := l) (k := k + 1) (i := k) (by rw [HN.out]; exact hlt)
      rw [if_pos (by omega)] at hnew
      generalize l.getD k e0 = e at *
      obtain ⟨s, t, x⟩ := e
      simp only at c0' c1' c2' hxs hnew
      have hbsz := hb.size
      have CW := hide (words_any x (wr.alloc (Obj.cells #[Value.int IntKind.i64 s, Value.int IntKind.i64 t, Value.string x] 66)) (htab.below (below_alloc wr _) (Nat.le_refl _)) hxs)
      have HNEW := hide hnew
      have HB := hide hb
      have HL := hide hL
      have hlbr : lb < wr.heap.size := by obtain ⟨C, h1, _⟩ := hL; exact (Array.getElem?_eq_some_iff.1 h1).1
      have hkn : (k : Int) < (n : Int) := by omega
      clear hnew hb hL hrd c0 c1 c2 hw0 htab HLB0 HB0
      go_wp2_with (go_at_call 100; refine CW.out.mono ?_; rintro e w2 ⟨v2, rfl, hb2, hr2⟩; have hb3 := (below_alloc wr (Obj.cells #[Value.int IntKind.i64 s, Value.int IntKind.i64 t, Value.string x] 66)).trans (hb2.mono (below_alloc wr _).size); have d0 : w2.cell? ⟨lb, k, none⟩ = some u0 := (hb3.cell (p := ⟨lb, k, none⟩) hlbr).trans hu0; have d1 : w2.frozen? ⟨lb, k, none⟩ = false := (World.frozen?_of_block (w := wr) (a := ⟨lb, k, none⟩) (hb3.block lb hlbr)).trans hfz; have HB3 := hide hb3; have HR2 := hide hr2; have hq := rd_len hr2.1; clear hb2 hr2 hb3; obtain ⟨a2, c2x, rfl, _, _⟩ := hq)
      go_roundw
      case rel =>
        refine ⟨k + 1, by omega, by go_num, (HB.out.trans (HB3.out.mono (by rw [← HLBE.out]; exact hbsz))).setCell (Nat.le_refl _) _, ?_⟩
        refine LB.put (HL.out.below HB3.out) (by rw [HLS.out, HLS.out]) (by rw [HNEW.out]; exact HR2.out) ?_
        intro i hi hne
        rw [HLS.out, ← HN.out] at hi
        rw [lsTo_get hi, lsTo_get hi]
        have e : (i < k + 1) ↔ (i < k) := by omega
        simp only [e]
      case measure => simp [intOf]; omega
    · have hke : k = n := by omega
      subst hke
      have hw0 := HC.out.1.trans (hb.mono hsz0)
      rw [show lsTo l k = ws l from HLF.out] at hL
      have hrl := hL.rdL (by rw [hwl.out]; exact h64)
      rw [show (ws l).length = k from hwl.out] at hrl
      have MG := hide (merge_any hrl (by omega))
      have HCw := hide (curB_below HC.out (by rw [HLBE.out]; exact hb))
      have HL := hide hL
      have hlbr : lb < wr.heap.size := by obtain ⟨C, h1, _⟩ := hL; exact (Array.getElem?_eq_some_iff.1 h1).1
      clear hb hL hrl hw0 HLB0 HB0 HC
      go_wp2_with fail
      refine MG.out.mono ?_
      rintro e w3 ⟨v3, rfl, hc3⟩
      have hRW : RdT w3 v3 (mw l) := ⟨cur_rd hc3, t9_own hc3.2⟩
      have HCw3 := hide (curB_below HCw.out hc3.1)
      have HL3 := hide (HL.out.below hc3.1)
      have HRW := hide hRW
      obtain ⟨a3, c3, rfl, hc3a, hc3b⟩ := rd_len hRW.1
      unfold maxLen at hc3b
      have hidx' := hidx.out
      generalize hmm : mw l = M at *
      generalize hmn : M.length = m at *
      have HMN := hide hmn
      clear hmn hmm hRW hc3 MG
      go_wp2_with (go_at_call 191; refine (appNum_any w0 w3 v B (m : Int) 2 HCw3.out (by omega) (by omega) (by omega) (by omega)).mono ?_; rintro e w4 ⟨v4, rfl, hc4, hg4⟩; have hk4 := hg4.keep5 HCw3.out.2; have HC4 := hide hc4; have HL4 := hide (HL3.out.keep5 hk4); have HR4 := hide (HRW.out.keep5 hk4); clear hc4 hg4 hk4)
      have HI := hide hidx'
      clear hidx'
      go_loopw [0, 37] (fun b i wr => ∃ (j : Nat) (B' : List Int) (Ls : List (List ByteArray)), j ≤ m ∧ i = .int .i64 j ∧ CurB w0 wr b B' ∧ Ls.length = k ∧ LB wr lb Ls ∧ RdT wr (.slice a3 m c3) M ∧ B' ++ idxGo (M.drop j) Ls = B ++ idx l ∧ B'.length ≤ 5002 + 126 * j) (fun _ i _ => m - (intOf i).toNat)
      case atStart => exact ⟨0, _, ws l, Nat.zero_le _, rfl, HC4.out, hwl.out, HL4.out, HR4.out, by rw [HI.out, List.drop_zero, List.append_assoc], by rw [List.length_append, num_len]; omega⟩
      case round =>
        obtain ⟨j, B', Ls, hj, rfl, hcb, hll, hlbn, hrt, heq, hbl⟩ := hrel
        by_cases hlt2 : j < m
        · obtain ⟨b3, o3, rfl, hcx⟩ := rd_get hrt.1 j (by rw [HMN.out]; exact hlt2)
          have hdrop := idx_drop (W := M) (k := j) (by rw [HMN.out]; exact hlt2) Ls
          have hxs : (M.getD j ByteArray.empty).size ≤ 60 := HMS.out _ (by rw [List.getD, List.getElem?_eq_getElem (by rw [HMN.out]; exact hlt2)]; exact List.getElem_mem _)
          rw [hll] at hdrop
          have htk := fun x => takeFirst_any lb k k Ls x wr hlbn hll (Nat.le_refl _) h64
          have hhl := fun x => havTo_len Ls x k
          generalize M.getD j ByteArray.empty = x at *
          have htk := hide (htk x)
          have hhl := hhl x
          have HDR := hide hdrop
          have HCB := hide hcb
          have HLB := hide hlbn
          have HRT := hide hrt
          have HEQ := hide heq
          have HLLN := hide hll
          have hszr := hcb.1.size
          have hlbr2 : lb < wr.heap.size := by obtain ⟨C, h1, _⟩ := hlbn; exact (Array.getElem?_eq_some_iff.1 h1).1
          generalize hhv : havTo Ls x k = H at *
          have HHV := hide hhv
          clear hdrop hcb hlbn hrt heq hll hhv
          go_wp2_with fail
          refine htk.out.mono ?_
          rintro e w5 ⟨v5, rfl, hg5, hl5, ho5⟩
          have HC5 := hide (curB_lists HCB.out HLB.out (by omega) hg5)
          have HR5 := hide (rd_now HLB.out HRT.out hg5)
          have HL5 := hide hl5
          have hne5 : v5.ownBlock = none ∨ v5.ownBlock ≠ u0.ownBlock := by
            cases h5 : v5.ownBlock with
            | none => exact Or.inl rfl
            | some g =>
              refine Or.inr fun e => ?_
              have q1 := ho5.lt g h5
              have q2 := HCB.out.2.lt g e.symm
              omega
          have HO5 := hide ho5
          have HNE5 := hide hne5
          clear hg5 hl5 ho5 hne5 htk
          generalize hq : H.length = q at *
          have HQ := hide hq
          clear hq
          have hqq : (q : Int) % 256 = q := by omega
          rw [hqq] at HDR
          clear hqq
          rcases HO5.out.2 with ⟨h0, hq0⟩ | ⟨g5, cap5, cur5, hv5, _, _, hcap5, hcap5', _⟩
          · subst h0
            subst hq0
            go_wp2_with fail
            refine (appText_any w0 w5 u0 B' x HC5.out (by omega) (by omega)).mono ?_
            rintro e w6 ⟨v6, rfl, hc6, hg6⟩
            have hk6 := hg6.keep5 HC5.out.2
            have HC6 := hide hc6
            have HL6 := hide (HL5.out.keep5 hk6)
            have HR6 := hide (HR5.out.keep5 hk6)
            have HO6 := hide (hg6.own HO5.out HNE5.out)
            have hl6 : (B' ++ (((x.size : Int) % 256) :: tb x)).length ≤ 5002 + 126 * j + 61 := by rw [List.length_append, List.length_cons, tb_len]; omega
            have HHB : Hid (B' ++ (((x.size : Int) % 256) :: tb x) = B' ++ (((x.size : Int) % 256) :: tb x)) := rfl
            have hsz6 := hc6.1.size
            clear hc6 hg6 hk6
            generalize hB6 : B' ++ (((x.size : Int) % 256) :: tb x) = B6 at *
            have HB6 := hide hB6
            clear hB6
            go_wp2_with (first | (at_builtin; refine wpList_append_own_at _ rfl (.tmp 47) (.tmp 51) 158 rfl w0.heap.size 5 i0 (.int .u8 0) 1 1 Tryz.underlying158 hi0 hz0 hz1 hz2 rfl (by decide) _ _ _ rfl (HC6.out.2.alloc _) ⟨w6.heap.size, 0, none⟩ 1 1 [.int .u8 0] rfl rfl (cell_one_new _ _ _) (by intro u hu; simp at hu; subst hu; rfl) (by unfold maxLen; omega) (by omega) (by simp; omega) ?_; intro v7 w7 hown7 hgrow7 _ hat7; have HC7 := hide (curB_append HC6.out hown7 hgrow7); have hg7 := gr_append hgrow7 hat7; have hk7 := hg7.keep5 HC6.out.2; have HL7 := hide (HL6.out.keep5 hk7); have HR7 := hide (HR6.out.keep5 hk7); have HO7 := hide (hg7.own HO6.out.1 HO6.out.2); have hsz7 := HC7.out.1.size; have hl7 : (B6 ++ [(0 : Int)]).length = B6.length + 1 := (by simp); clear hown7 hgrow7 hat7 hg7 hk7) | (at_builtin; refine wpList_append_own_none rfl (.tmp 53) (.tmp 54) 158 rfl w0.heap.size 5 i0 1 Tryz.underlying158 hi0 _ _ _ rfl HC7.out.2 rfl ?_))
            go_roundw
            case rel =>
              have hH : H = [] := List.length_eq_zero_iff.1 HQ.out
              refine ⟨j + 1, _, rstTo Ls x k, by omega, by go_num, HC7.out, by rw [rstTo_len]; exact HLLN.out, HL7.out, HR7.out, ?_, by omega⟩
              rw [← HEQ.out, HDR.out, ← HB6.out, hH]
              simp [List.append_assoc]
            case measure => simp [intOf]; omega
          · subst hv5
            unfold maxLen at hcap5'
            go_wp2_with fail
            refine (appText_any w0 w5 u0 B' x HC5.out (by omega) (by omega)).mono ?_
            rintro e w6 ⟨v6, rfl, hc6, hg6⟩
            have hk6 := hg6.keep5 HC5.out.2
            have HC6 := hide hc6
            have HL6 := hide (HL5.out.keep5 hk6)
            have HR6 := hide (HR5.out.keep5 hk6)
            have HO6 := hide (hg6.own HO5.out HNE5.out)
            have hl6 : (B' ++ (((x.size : Int) % 256) :: tb x)).length ≤ 5002 + 126 * j + 61 := by rw [List.length_append, List.length_cons, tb_len]; omega
            have HHB : Hid (B' ++ (((x.size : Int) % 256) :: tb x) = B' ++ (((x.size : Int) % 256) :: tb x)) := rfl
            have hsz6 := hc6.1.size
            clear hc6 hg6 hk6
            generalize hB6 : B' ++ (((x.size : Int) % 256) :: tb x) = B6 at *
            have HB6 := hide hB6
            clear hB6
            go_wp2_with (first | (at_builtin; refine wpList_append_own_at _ rfl (.tmp 47) (.tmp 51) 158 rfl w0.heap.size 5 i0 (.int .u8 0) 1 1 Tryz.underlying158 hi0 hz0 hz1 hz2 rfl (by decide) _ _ _ rfl (HC6.out.2.alloc _) ⟨w6.heap.size, 0, none⟩ 1 1 [.int .u8 (q : Int)] rfl rfl (cell_one_new _ _ _) (by intro u hu; simp at hu; subst hu; rfl) (by unfold maxLen; omega) (by omega) (by simp; omega) ?_; intro v7 w7 hown7 hgrow7 _ hat7; have HC7 := hide (curB_append HC6.out hown7 hgrow7); have hg7 := gr_append hgrow7 hat7; have hk7 := hg7.keep5 HC6.out.2; have HL7 := hide (HL6.out.keep5 hk7); have HR7 := hide (HR6.out.keep5 hk7); have HO7 := hide (hg7.own HO6.out.1 HO6.out.2); have hsz7 := HC7.out.1.size; have hl7 : (B6 ++ [(q : Int)]).length = B6.length + 1 := (by simp); clear hown7 hgrow7 hat7 hg7 hk7) | (at_builtin; refine wpList_append_own _ rfl (.tmp 53) (.tmp 54) 158 rfl w0.heap.size 5 i0 (.int .u8 0) 1 1 Tryz.underlying158 hi0 hz0 hz1 hz2 rfl (by decide) _ _ _ rfl HC7.out.2 ⟨g5, 0, none⟩ q cap5 (H.map eB) rfl (by rw [List.length_map, HQ.out, Nat.mul_one]) (HO7.out.1.cells (g := g5) rfl) (by intro u hu; simp at hu; obtain ⟨z, _, rfl⟩ := hu; rfl) (by unfold maxLen; omega) (by omega) (by exact hsz7) ?_; intro v8 w8 hown8 hgrow8 _; have HC8 := hide (curB_more HC7.out HQ.out.symm hown8 hgrow8); have hk8 := keep5_grown HC7.out.2 hgrow8; have HL8 := hide (HL7.out.keep5 hk8); have HR8 := hide (HR7.out.keep5 hk8); clear hown8 hgrow8 hk8))
            go_roundw
            case rel =>
              refine ⟨j + 1, _, rstTo Ls x k, by omega, by go_num, HC8.out, by rw [rstTo_len]; exact HLLN.out, HL8.out, HR8.out, ?_, by rw [List.length_append, HQ.out]; omega⟩
              rw [← HEQ.out, HDR.out, ← HB6.out]
              simp only [List.append_assoc, List.cons_append, List.nil_append]
            case measure => simp [intOf]; omega
        · have hje : j = m := by omega
          subst hje
          have HCB := hide hcb
          have HEQ := hide heq
          clear hcb heq hlbn hrt
          go_wp2
          go_ret
          exact ⟨_, rfl, by have := HEQ.out; rw [List.drop_of_length_le (by rw [HMN.out]; exact Nat.le_refl _)] at this; simp only [idxGo, List.append_nil] at this; rw [← this]; exact HCB.out⟩
end Go.Proofs.YtkncboinfcnklaaGreatDoor

namespace Go.Proofs.YtkncboinfcnklaaGreatDoor
open Go.RowKit Go.Deep Go.Proofs.YtkncboinfcnklaaGreatDoor.Mth

set_option maxHeartbeats 400000 in
theorem isSeg_zero (a : Option Addr) (c : Nat) (w : World) : Calls Tryz.prog 190 #[.slice a 0 c] w fun e w' => e = .returned (.bool false) ∧ Below w.heap.size w w' := by
  go_enter Tryz.func190, Tryz.ntmps190
  go_wp2
  go_ret
  exact ⟨rfl, Below.refl _ _⟩

def segB (l : List Ent) : Bool := decide (1 ≤ l.length) && (List.range l.length).all (okAt l)
theorem seg_of {l : List Ent} (h : segB l = true) (h64 : l.length ≤ 64) : Seg l := by
  unfold segB at h
  rw [Bool.and_eq_true, List.all_eq_true] at h
  exact ⟨by simpa using h.1, h64, fun i hi => h.2 i (List.mem_range.2 hi)⟩
theorem segB_of {l : List Ent} (h : Seg l) : segB l = true := by
  unfold segB
  rw [Bool.and_eq_true, List.all_eq_true]
  exact ⟨by simpa using h.1, fun i hi => h.2.2 i (List.mem_range.1 hi)⟩

theorem isSeg_any (v : Value) (l : List Ent) (w : World) (h : RdE w v l) (h64 : l.length ≤ 64) : Calls Tryz.prog 190 #[v] w fun e w' => e = .returned (.bool (segB l)) ∧ Below w.heap.size w w' := by
  obtain ⟨a, c, rfl, _, _⟩ := rdE_len h
  by_cases h1 : 1 ≤ l.length
  · refine isSeg_core a c l w h h1 h64 (segB l) ?_
    show segB l = _
    unfold segB
    simp only [h1, decide_true, Bool.true_and]
  · have : l = [] := List.length_eq_zero_iff.1 (by omega)
    subst this
    exact isSeg_zero a c w

def body (l : List Ent) : List Int := hd l ++ idx l
/-- The bytes of a segment. -/
def pk (l : List Ent) : List Int := body l ++ num (sumv (body l)) 4

theorem ent_bts (e : Ent) : Bts (ent e) := bts_append (num_bts _ _) (bts_append (num_bts _ _) (bts_append (a := [_]) (bts_one (by omega) (by omega)) (tb_bts _)))
theorem ents_bts : ∀ l : List Ent, Bts (l.map ent).flatten
  | [] => bts_nil
  | e :: l => bts_append (ent_bts e) (ents_bts l)
theorem body_bts (l : List Ent) (h : l.length ≤ 64) : Bts (body l) := bts_append (bts_append (num_bts _ _) (ents_bts l)) (idx_bts l h)
theorem pk_bts (l : List Ent) (h : l.length ≤ 64) : Bts (pk l) := bts_append (body_bts l h) (num_bts _ _)

theorem ent_len {e : Ent} (h : e.text.size ≤ 60) : (ent e).length ≤ 77 := by
  unfold ent
  simp only [List.length_append, List.length_cons, num_len, tb_len]
  omega
theorem ents_len : ∀ (l : List Ent), (∀ e ∈ l, e.text.size ≤ 60) → (l.map ent).flatten.length ≤ 77 * l.length
  | [], _ => by simp
  | e :: l, h => by
    have h1 := ents_len l (fun x hx => h x (by simp [hx]))
    have h2 := ent_len (h e (by simp))
    simp only [List.map_cons, List.flatten_cons, List.length_append, List.length_cons]
    omega
theorem seg_text {l : List Ent} (h : Seg l) : ∀ e ∈ l, e.text.size ≤ 60 := by
  intro e he
  have := seg_ent h e he
  unfold isE at this
  simp only [Bool.and_eq_true, decide_eq_true_iff] at this
  exact this.2
theorem idxGo_len : ∀ (xs : List ByteArray) (Ls : List (List ByteArray)), Ls.length ≤ 64 → (∀ x ∈ xs, x.size ≤ 60) → (idxGo xs Ls).length ≤ 126 * xs.length
  | [], _, _, _ => by simp [idxGo]
  | x :: xs, Ls, h, hx => by
    have h1 := idxGo_len xs (rstTo Ls x Ls.length) (by rw [rstTo_len]; exact h) (fun y hy => hx y (by simp [hy]))
    have h2 := hx x (by simp)
    have h3 := havTo_len Ls x Ls.length
    simp only [idxGo, List.length_append, List.length_cons, tb_len]
    omega
theorem body_len {l : List Ent} (h : Seg l) : (body l).length ≤ 500000 := by
  have h1 := ents_len l (seg_text h)
  have h2 := idxGo_len (mw l) (ws l) (by simpa [ws] using h.2.1) (fun x hx => mw_size l (seg_text h) hx)
  have h3 := mw_len l (seg_text h)
  have h4 := h.2.1
  unfold body hd idx
  simp only [List.length_append, num_len]
  omega

theorem ents_take {l : List Ent} {k : Nat} (h : k < l.length) : ((l.take (k + 1)).map ent).flatten = ((l.take k).map ent).flatten ++ ent (l.getD k e0) := by
  rw [List.take_succ_eq_append_getElem h, List.map_append, List.flatten_append]
  simp [List.getD, h]

set_option maxRecDepth 100000 in
set_option maxHeartbeats 1000000 in
theorem pack_yes (v : Value) (l : List Ent) (w : World) (h : RdE w v l) (hT : Tab w) (hS : Seg l) :
    Calls Tryz.prog 113 #[v] w fun e w' => ∃ v', e = .returned (.tuple #[v', .int .i64 0]) ∧ CurB w w' v' (pk l) := by
  have CI := hide (isSeg_any v l w h hS.2.1)
  rw [segB_of hS] at CI
  have HS := hide hS
  have HE := hide h
  have HT := hide hT
  have h64 := hS.2.1
  have hs1 := hS.1
  obtain ⟨a, c, rfl, hc, hm⟩ := rdE_len h
  unfold maxLen at hm
  have HBL := hide (body_len hS)
  have HBB := hide (body_bts l h64)
  clear h hT hS
  generalize hn : l.length = n at *
  have HN := hide hn
  have hhd : Hid (hd l = num l.length 2 ++ (l.map ent).flatten) := rfl
  rw [hn] at hhd
  clear hn
  go_enter Tryz.func113, Tryz.ntmps113
  go_wp2_with fail
  refine CI.out.mono ?_
  rintro e w1 ⟨rfl, hb1⟩
  have HC0 : Hid (CurB w w1 (.slice none 0 0) []) := ⟨hb1, World.ownsRow_nil _ _ _ _⟩
  clear CI hb1
  go_wp2_with (first | (go_at_call 191; refine (appNum_any w w1 _ [] (n : Int) 2 HC0.out (by omega) (by omega) (by omega) (by simp)).mono ?_; rintro e w2 ⟨v2, rfl, hc2, hg2⟩; have HC2 := hide hc2; clear hc2 hg2))
  go_loopw [4, 15] (fun b i wr => ∃ k : Nat, k ≤ n ∧ i = .int .i64 k ∧ CurB w wr b (num n 2 ++ ((l.take k).map ent).flatten)) (fun _ i _ => n - (intOf i).toNat)
  case atStart => exact ⟨0, Nat.zero_le _, rfl, by simpa using HC2.out⟩
  case round =>
    obtain ⟨k, hk, rfl, hcb⟩ := hrel
    by_cases hlt : k < n
    · obtain ⟨b, o, rfl, hblt, c0, c1, c2⟩ := rdE_at HE.out k (by rw [HN.out]; exact hlt)
      have c0' := (hcb.1.cell (p := ⟨b, o + k * 3, none⟩) hblt).trans c0
      have c1' := (hcb.1.cell (p := ⟨b, o + k * 3 + 1, none⟩) hblt).trans c1
      have c2' := (hcb.1.cell (p := ⟨b, o + k * 3 + 2, none⟩) hblt).trans c2
      have hie : isE (l.getD k e0) = true := seg_ent HS.out _ (by rw [List.getD, List.getElem?_eq_getElem (by rw [HN.out]; exact hlt)]; exact List.getElem_mem _)
      have HTK := hide (ents_take (l := l) (k := k) (by rw [HN.out]; exact hlt))
      have hl1 : (num n 2 ++ ((l.take k).map ent).flatten).length ≤ 524288 := by
        have q1 := ents_len (l.take k) (fun e he => seg_text HS.out e (List.mem_of_mem_take he))
        rw [List.length_append, num_len]
        rw [List.length_take] at q1
        omega
      have HL1 := hide hl1
      clear hl1
      generalize l.getD k e0 = e at *
      have HIE := hide hie
      clear hie
      have CA := hide (fun (W : World) (hW : CurB w W u4 (num n 2 ++ ((l.take k).map ent).flatten)) => appEntry_any w W u4 _ e hW HL1.out HIE.out)
      obtain ⟨s, t, x⟩ := e
      simp only at c0' c1' c2'
      have HCB := hide hcb
      clear hcb c0 c1 c2
      go_wp2_with fail
      refine (CA.out _ (curB_below HCB.out (below_alloc wr _))).mono ?_
      rintro r w3 ⟨v3, rfl, hc3, _⟩
      have HC3 := hide hc3
      clear hc3 CA
      go_wp2
      go_roundw
      case rel => exact ⟨k + 1, by omega, by go_num, by rw [HTK.out, ← List.append_assoc]; exact HC3.out⟩
      case measure => simp [intOf]; omega
    · have hke : k = n := by omega
      subst hke
      rw [List.take_of_length_le (by rw [HN.out]; exact Nat.le_refl _), ← hhd.out] at hcb
      have hl2 : (hd l).length ≤ 5000 := by
        have q1 := ents_len l (seg_text HS.out)
        have := HN.out
        rw [hhd.out, List.length_append, num_len]
        omega
      have CX := hide (appIndex_any w wr _ _ (hd l) l hcb HE.out HT.out (by rw [HN.out]; exact hs1) (by rw [HN.out]; exact h64) (seg_text HS.out) hl2)
      clear hcb hl2
      go_wp2_with fail
      refine CX.out.mono ?_
      rintro e w5 ⟨v5, rfl, hc5⟩
      have HC5 : Hid (CurB w w5 v5 (body l)) := hc5
      have CS := hide (sum_any (rdB_own HC5.out.2) HBB.out)
      have hsb := sumv_bd (body l)
      clear hc5 CX
      go_wp2_with fail
      refine CS.out.mono ?_
      rintro e w6 ⟨rfl, hw6⟩
      rw [hw6]
      clear hw6 w6 CS
      have hpk : Hid (pk l = body l ++ num (sumv (body l)) 4) := rfl
      generalize sumv (body l) = S at *
      have CN := hide (appNum_any w w5 v5 (body l) S 4 HC5.out hsb.1 (by omega) (by omega) (by have := HBL.out; omega))
      go_wp2_with fail
      refine CN.out.mono ?_
      rintro e w7 ⟨v7, rfl, hc7, _⟩
      have HC7 := hide hc7
      clear hc7 CN
      go_wp2
      go_ret2
      exact ⟨_, rfl, by rw [hpk.out]; exact HC7.out⟩

set_option maxHeartbeats 400000 in
theorem pack_no (v : Value) (l : List Ent) (w : World) (h : RdE w v l) (h64 : l.length ≤ 64) (hS : segB l = false) :
    Calls Tryz.prog 113 #[v] w fun e w' => e = .returned (.tuple #[.slice none 0 0, .int .i64 2]) ∧ Below w.heap.size w w' := by
  have CI := hide (isSeg_any v l w h h64)
  rw [hS] at CI
  clear h hS
  go_enter Tryz.func113, Tryz.ntmps113
  go_wp2_with fail
  refine CI.out.mono ?_
  rintro e w1 ⟨rfl, hb1⟩
  have HB := hide hb1
  clear hb1 CI
  go_wp2
  go_ret2
  exact ⟨rfl, HB.out⟩
end Go.Proofs.YtkncboinfcnklaaGreatDoor

namespace Go.Proofs.YtkncboinfcnklaaGreatDoor
open Go.RowKit Go.Deep Go.Proofs.YtkncboinfcnklaaGreatDoor.Mth

/-- A reader, with what is left. -/
def Bel (v : Value) (B : Nat) : Prop := ∀ a n c, v = .slice (some a) n c → a.block < B
def Rdr (w : World) (r B : Nat) (left : List Int) : Prop := ∃ vl, w.heap[r]? = some (Obj.cells #[vl] 337 (0, 0)) ∧ RdB w vl left ∧ (left = [] ∨ Bel vl B)

theorem rdB_set {w : World} {r : Nat} {vl u v : Value} {l : List Int} (hr : w.heap[r]? = some (Obj.cells #[vl] 337 (0, 0))) (hvl : ∀ k x, vl ≠ .int k x) (h : RdB w v l) : RdB (w.setCell ⟨r, 0, none⟩ u) v l := by
  obtain ⟨a, c, rfl, hc, hm, h⟩ := h
  refine ⟨a, c, rfl, hc, hm, ?_⟩
  rcases h with h | ⟨b, o, rfl, h⟩
  · exact Or.inl h
  · refine Or.inr ⟨b, o, rfl, fun j hj => ?_⟩
    have h1 := h j hj
    rw [World.cell?_setCell_other _ _ _ _ ?_]
    · exact h1
    · intro e
      injection e with e1 e2 e3
      subst e1
      rw [← e2] at h1
      simp only [World.cell?, hr] at h1
      simp at h1
      exact hvl _ _ h1

theorem rdB_sl {w : World} {v : Value} {l : List Int} (h : RdB w v l) : ∀ k x, v ≠ .int k x := by
  obtain ⟨a, c, rfl, _⟩ := h
  intro k x e; cases e

theorem take_min (l : List Int) (n : Nat) : l.take (min n l.length) = l.take n := by
  by_cases c : n ≤ l.length
  · rw [Nat.min_eq_left c]
  · rw [Nat.min_eq_right (by omega), List.take_of_length_le (Nat.le_refl _), List.take_of_length_le (by omega)]
theorem drop_min (l : List Int) (n : Nat) : l.drop (min n l.length) = l.drop n := by
  by_cases c : n ≤ l.length
  · rw [Nat.min_eq_left c]
  · rw [Nat.min_eq_right (by omega), List.drop_of_length_le (Nat.le_refl _), List.drop_of_length_le (by omega)]

/-- What is left behind a take. -/
def lft (a : Option Addr) (L c n : Nat) : Value := if c = n then .slice a (L - n) 0 else .slice (a.map (fun x => x.add n)) (L - n) (c - n)

set_option maxHeartbeats 400000 in
theorem take_core (r n m : Nat) (a : Option Addr) (L c : Nat) (w : World) (hr : w.heap[r]? = some (Obj.cells #[.slice a L c] 337 (0, 0))) (_hn : n ≤ 1000) (hLc : L ≤ c) (hmx : c ≤ maxLen) (hmn : m = min n L) :
    Calls Tryz.prog 274 #[.pointer (some ⟨r, 0, none⟩), .int .i64 n] w fun e w' => e = .returned (.slice a m c) ∧ w' = w.setCell ⟨r, 0, none⟩ (lft a L c m) := by
  have k0 : w.cell? ⟨r, 0, none⟩ = some (.slice a L c) := by simp [World.cell?, hr]
  have k1 : w.frozen? ⟨r, 0, none⟩ = false := by simp [World.frozen?, hr]
  have _hm := hmx
  unfold maxLen at _hm
  clear hr
  have hmin : (min (n : Int) (L : Int)) = m := by omega
  have h1 : m ≤ L := by omega
  clear hmn
  go_enter Tryz.func274, Tryz.ntmps274
  go_wp2
  all_goals go_ret
  · refine ⟨rfl, ?_⟩
    unfold lft
    rw [if_pos (by omega)]
  · refine ⟨rfl, ?_⟩
    unfold lft
    rw [if_neg (by omega)]

theorem rdB_take {w : World} {a : Option Addr} {c : Nat} {l : List Int} (h : RdB w (.slice a l.length c) l) (n : Nat) (hn : n ≤ l.length) : RdB w (.slice a n c) (l.take n) := by
  obtain ⟨a', c', e, hc, hm, h⟩ := h
  injection e with e1 _ e3
  subst e1 e3
  refine ⟨a, c, by rw [List.length_take, Nat.min_eq_left hn], by rw [List.length_take]; omega, hm, ?_⟩
  rcases h with h | ⟨b, o, rfl, h⟩
  · subst h; exact Or.inl (by simp)
  · refine Or.inr ⟨b, o, rfl, fun j hj => ?_⟩
    rw [List.length_take] at hj
    rw [h j (by omega)]
    congr 2
    simp only [List.getD, List.getElem?_take]
    rw [if_pos (by omega)]

theorem rdB_drop {w : World} {a : Option Addr} {c : Nat} {l : List Int} (h : RdB w (.slice a l.length c) l) (n : Nat) (hn : n ≤ l.length) : RdB w (lft a l.length c n) (l.drop n) := by
  obtain ⟨a', c', e, hc, hm, h⟩ := h
  injection e with e1 _ e3
  subst e1 e3
  unfold lft
  by_cases q : c = n
  · rw [if_pos q]
    have : l.drop n = [] := List.drop_of_length_le (by omega)
    rw [this]
    exact ⟨a, 0, by simp; omega, by simp, by unfold maxLen; omega, Or.inl rfl⟩
  · rw [if_neg q]
    refine ⟨_, c - n, by rw [List.length_drop], by rw [List.length_drop]; omega, by omega, ?_⟩
    rcases h with h | ⟨b, o, rfl, h⟩
    · subst h; exact Or.inl (by simp)
    · refine Or.inr ⟨b, o + n, by simp [Addr.add_lit], fun j hj => ?_⟩
      rw [List.length_drop] at hj
      rw [Nat.add_assoc, h (n + j) (by omega)]
      simp [List.getD]

theorem lft_bel {a : Option Addr} {L c n k B : Nat} (h : Bel (.slice a k c) B) : Bel (lft a L c n) B := by
  intro a' n' c' e
  unfold lft at e
  by_cases q : c = n
  · rw [if_pos q] at e
    injection e with e _ _
    subst e
    exact h a' k c rfl
  · rw [if_neg q] at e
    injection e with e _ _
    cases a with
    | none => cases e
    | some x =>
      simp at e
      subst e
      have : (x.add n).block = x.block := by unfold Addr.add; split <;> rfl
      rw [this]
      exact h x k c rfl

theorem take_any (r n B : Nat) (l : List Int) (w : World) (h : Rdr w r B l) (hn : n ≤ 1000) :
    Calls Tryz.prog 274 #[.pointer (some ⟨r, 0, none⟩), .int .i64 n] w fun e w' => ∃ v' u, e = .returned v' ∧ w' = w.setCell ⟨r, 0, none⟩ u ∧ RdB w' v' (l.take n) ∧ Rdr w' r B (l.drop n) := by
  obtain ⟨vl, hr, hb, hbel⟩ := h
  obtain ⟨a, c, rfl, hc, hm⟩ := rdB_len hb
  refine (take_core r n (min n l.length) a l.length c w hr hn hc hm rfl).mono ?_
  rintro e w' ⟨rfl, rfl⟩
  refine ⟨_, _, rfl, rfl, ?_, lft a l.length c (min n l.length), ?_, ?_, hbel.imp (fun e => by rw [e]; simp) lft_bel⟩
  · have := rdB_take hb (min n l.length) (by omega)
    rw [take_min] at this
    exact rdB_set hr (rdB_sl hb) this
  · simp [World.setCell, Array.getElem?_modify, hr]
  · have := rdB_drop hb (min n l.length) (by omega)
    rw [drop_min] at this
    exact rdB_set hr (rdB_sl hb) this

theorem or_byte (a b : Nat) (h : b < 256) : (a * 256) ||| b = a * 256 + b := by
  have := Nat.two_pow_add_eq_or_of_lt (i := 8) (b := b) (by simpa using h) a
  rw [Nat.mul_comm] at this
  exact this.symm
theorem or_wrap (p x : Int) (x1 : 0 ≤ x) (x2 : x < 256) : bits BinOp.or IntKind.i64 (wrap64 (p * 256)) x = wrap64 (p * 256 + x) := by
  obtain ⟨b, rfl⟩ := Int.eq_ofNat_of_zero_le x1
  show IntKind.i64.wrap ((BitVec.ofInt 64 (wrap64 (p * 256)) ||| BitVec.ofInt 64 (b : Int)).toNat : Int) = _
  have e1 : BitVec.ofInt 64 (wrap64 (p * 256)) = BitVec.ofNat 64 ((p % 72057594037927936).toNat * 256) := by
    apply BitVec.eq_of_toNat_eq
    simp only [BitVec.toNat_ofInt, BitVec.toNat_ofNat]
    unfold wrap64
    omega
  have e2 : BitVec.ofInt 64 (b : Int) = BitVec.ofNat 64 b := by
    apply BitVec.eq_of_toNat_eq
    simp only [BitVec.toNat_ofInt, BitVec.toNat_ofNat]
    omega
  rw [e1, e2, BitVec.toNat_or, BitVec.toNat_ofNat, BitVec.toNat_ofNat, Nat.mod_eq_of_lt (by omega), Nat.mod_eq_of_lt (by omega), or_byte _ _ (by omega), IntKind.wrap_i64]
  unfold wrap64
  omega

theorem rdNum_snoc (l : List Int) (x : Int) : rdNum (l ++ [x]) = wrap64 (rdNum l * 256 + x) := by simp [rdNum, List.foldl_append]
theorem rdNum_take {l : List Int} {k : Nat} (h : k < l.length) : rdNum (l.take (k + 1)) = wrap64 (rdNum (l.take k) * 256 + l.getD k 0) := by
  rw [List.take_succ_eq_append_getElem h, rdNum_snoc]
  simp [List.getD, h]
theorem rdNum_bd (l : List Int) : -9223372036854775808 ≤ rdNum l ∧ rdNum l < 9223372036854775808 := by
  rcases List.eq_nil_or_concat l with rfl | ⟨m, x, rfl⟩
  · simp [rdNum]
  · rw [List.concat_eq_append, rdNum_snoc]; unfold wrap64; omega

set_option maxRecDepth 100000 in
set_option maxHeartbeats 400000 in
theorem number_any (r n B : Nat) (l : List Int) (w : World) (h : Rdr w r B l) (hl : Bts l) (hn : n ≤ 8) :
    Calls Tryz.prog 244 #[.pointer (some ⟨r, 0, none⟩), .int .i64 n] w fun e w' => e = .returned (.int .i64 (rdNum (l.take n))) ∧ (∃ u, w' = w.setCell ⟨r, 0, none⟩ u) ∧ Rdr w' r B (l.drop n) := by
  have CT := hide (take_any r n B l w h (by omega))
  clear h
  go_enter Tryz.func244, Tryz.ntmps244
  go_wp2_with fail
  refine CT.out.mono ?_
  rintro e w1 ⟨v1, u1, rfl, hw1, hrb, hrd⟩
  have HW := hide (⟨u1, hw1⟩ : ∃ u, w1 = w.setCell ⟨r, 0, none⟩ u)
  have HRD := hide hrd
  have hbt : Bts (l.take n) := fun x hx => hl x (List.mem_of_mem_take hx)
  generalize hMM : l.take n = M at *
  have HMM := hide hMM
  clear hMM
  have HRB := hide hrb
  obtain ⟨a, c, rfl, hc, hm⟩ := rdB_len hrb
  unfold maxLen at hm
  clear hw1 hrb hrd CT
  generalize hM : M.length = m at *
  have HM := hide hM
  clear hM
  go_wp2_with fail
  go_loop [5, 12] (fun p i => ∃ k : Nat, k ≤ m ∧ i = .int .i64 k ∧ p = .int .i64 (rdNum (M.take k))) (fun _ i => m - (intOf i).toNat)
  case atStart => exact ⟨0, Nat.zero_le _, rfl, rfl⟩
  case round =>
    obtain ⟨k, hk, rfl, rfl⟩ := hrel
    by_cases hlt : k < m
    · obtain ⟨b, o, rfl, _, hcell⟩ := rdB_at HRB.out k (by rw [HM.out]; exact hlt)
      have hst := hide (rdNum_take (l := M) (k := k) (by rw [HM.out]; exact hlt))
      have hx := bts_get hbt k
      have hp := rdNum_bd (M.take k)
      generalize M.getD k 0 = x at *
      generalize rdNum (M.take k) = p at *
      obtain ⟨x1, x2⟩ := hx
      obtain ⟨p1, p2⟩ := hp
      go_wp2
      go_round
      case rel => exact ⟨k + 1, by omega, by go_num, by rw [hst.out, or_wrap p x x1 x2]⟩
      case measure => simp [intOf]; omega
    · have hke : k = m := by omega
      subst hke
      go_wp2
      go_ret
      exact ⟨by rw [HMM.out, List.take_of_length_le (by rw [HM.out]; exact Nat.le_refl _)]; rfl, HW.out, HRD.out⟩
end Go.Proofs.YtkncboinfcnklaaGreatDoor

namespace Go.Proofs.YtkncboinfcnklaaGreatDoor
open Go.RowKit Go.Deep Go.Proofs.YtkncboinfcnklaaGreatDoor.Mth

theorem Rdr.below {w w' : World} {r B : Nat} {l : List Int} (h : Rdr w r B l) (hb : Below w.heap.size w w') : Rdr w' r B l := by
  obtain ⟨vl, h1, h2⟩ := h
  exact ⟨vl, by rw [hb.block r (Array.getElem?_eq_some_iff.1 h1).1]; exact h1, h2.1.below hb, h2.2⟩
theorem Rdr.lt {w : World} {r B : Nat} {l : List Int} (h : Rdr w r B l) : r < w.heap.size := by
  obtain ⟨vl, h1, h2⟩ := h
  exact (Array.getElem?_eq_some_iff.1 h1).1

/-- A box of an entry, and the reader beside it. -/
theorem box_set {w : World} {nb r : Nat} {C : Array Value} {u : Value} (h : w.heap[nb]? = some (Obj.cells C 66 (0, 0))) (hne : nb ≠ r) : (w.setCell ⟨r, 0, none⟩ u).heap[nb]? = some (Obj.cells C 66 (0, 0)) := by
  rw [← h]
  simp [World.setCell, Array.getElem?_modify]
  intro e; exact absurd e.symm hne

theorem grown_set {w : World} {r : Nat} {u : Value} : w.grownBy (w.setCell ⟨r, 0, none⟩ u) (some r) := grown_put ⟨rfl, rfl, rfl, Nat.le_refl _, fun _ _ _ => rfl⟩

theorem grown_trans {a b c : World} {row : Option Nat} (h : a.grownBy b row) (k : b.grownBy c row) : a.grownBy c row :=
  ⟨k.os.trans h.os, k.tape.trans h.tape, k.output.trans h.output, Nat.le_trans h.size k.size, fun j hj hne => (k.block j (Nat.lt_of_lt_of_le hj h.size) hne).trans (h.block j hj hne)⟩

theorem bts_drop {l : List Int} (h : Bts l) (n : Nat) : Bts (l.drop n) := fun x hx => h x (List.mem_of_mem_drop hx)
theorem bts_take {l : List Int} (h : Bts l) (n : Nat) : Bts (l.take n) := fun x hx => h x (List.mem_of_mem_take hx)

theorem rdNum_one {l : List Int} (h : Bts l) : 0 ≤ rdNum (l.take 1) ∧ rdNum (l.take 1) < 256 := by
  cases l with
  | nil => simp [rdNum]
  | cons x l =>
    have := h x (by simp)
    simp only [List.take_succ_cons, List.take_zero]
    rw [rdNum1 x this.1 this.2]
    exact this

theorem rdr_other {w w' : World} {nb r B : Nat} {a b : Int} {x : ByteArray} {l : List Int} (h : Rdr w r B l) (hb : w.heap[nb]? = some (Obj.cells #[.int .i64 a, .int .i64 b, .string x] 66 (0, 0))) (hr : nb ≠ r) (hk : ∀ k, k ≠ nb → w'.heap[k]? = w.heap[k]?) : Rdr w' r B l := by
  obtain ⟨vl, h1, h2, h3⟩ := h
  refine ⟨vl, by rw [hk r (Ne.symm hr)]; exact h1, ?_, h3⟩
  clear h3
  obtain ⟨a', c, rfl, hc, hm, h⟩ := h2
  refine ⟨a', c, rfl, hc, hm, ?_⟩
  rcases h with h | ⟨b', o, rfl, h⟩
  · exact Or.inl h
  · refine Or.inr ⟨b', o, rfl, fun j hj => ?_⟩
    have h1 := h j hj
    have hne : b' ≠ nb := by
      rintro rfl
      simp only [World.cell?, hb] at h1
      simp at h1
      generalize o + j = q at *
      match q, h1 with
      | 0, h1 => simp at h1
      | 1, h1 => simp at h1
      | 2, h1 => simp at h1
      | q + 3, h1 => simp at h1
    rw [World.cell?_of_block (w := w) (a := ⟨b', o + j, none⟩) (hk b' hne)]
    exact h1

theorem set_other {w : World} {nb k o : Nat} {u : Value} (h : k ≠ nb) : (w.setCell ⟨nb, o, none⟩ u).heap[k]? = w.heap[k]? := by
  simp [World.setCell, Array.getElem?_modify]
  intro e; exact absurd e.symm h

theorem conv_any {w : World} {v : Value} {l : List Int} (h : RdB w v l) : (convert 158 9 v).run Tryz.prog w = .ok (.string (strOfNums l)) w := by
  obtain ⟨a, c, rfl, hc, hm, h⟩ := h
  rcases h with h | ⟨b, o, rfl, h⟩
  · subst h
    exact run_convert_bytes_zero (P := Tryz.prog) w 158 5 Tryz.underlying158 Tryz.underlying5 a c 9 Tryz.underlying9
  · exact run_convert_bytes_arg (P := Tryz.prog) w 158 5 Tryz.underlying158 Tryz.underlying5 b o l.length c l rfl h 9 Tryz.underlying9

set_option maxRecDepth 100000 in
set_option maxHeartbeats 400000 in
theorem entry_any (r B : Nat) (l : List Int) (w : World) (h : Rdr w r B l) (hl : Bts l) :
    Calls Tryz.prog 245 #[.pointer (some ⟨r, 0, none⟩)] w fun e w' => e = .returned (eV (rdEnt l)) ∧ Rdr w' r B (rdRest l) ∧ w.grownBy w' (some r) := by
  have hrl := h.lt
  have HB0 : Hid ((w.alloc (.cells #[.int .i64 0, .int .i64 0, .string ByteArray.empty] 66)).heap[w.heap.size]? = some (.cells #[.int .i64 0, .int .i64 0, .string ByteArray.empty] 66 (0, 0))) := by
    show (w.heap.push _)[w.heap.size]? = _
    rw [Array.getElem?_push, if_pos rfl]
  have HR0 := hide (h.below (below_alloc w (.cells #[.int .i64 0, .int .i64 0, .string ByteArray.empty] 66)))
  have HG0 := hide (World.grownBy_alloc w (.cells #[.int .i64 0, .int .i64 0, .string ByteArray.empty] 66) (some r))
  clear h
  go_enter Tryz.func245, Tryz.ntmps245
  go_wp2_with fail
  refine (number_any r 8 B l _ HR0.out hl (by omega)).mono ?_
  rintro e w1 ⟨rfl, ⟨u1, hw1⟩, hr1⟩
  have HB1 : Hid (w1.heap[w.heap.size]? = some (.cells #[.int .i64 0, .int .i64 0, .string ByteArray.empty] 66 (0, 0))) := by rw [hw1]; exact box_set HB0.out (by omega)
  have HG1 : Hid (w.grownBy w1 (some r)) := by rw [hw1]; exact grown_trans HG0.out grown_set
  have HR1 := hide hr1
  clear hw1 hr1 HB0 HG0 HR0
  go_wp2_with fail
  refine (number_any r 8 B (l.drop 8) w1 HR1.out (bts_drop hl 8) (by omega)).mono ?_
  rintro e w2 ⟨rfl, ⟨u2, hw2⟩, hr2⟩
  have HB2 : Hid (w2.heap[w.heap.size]? = some (.cells #[.int .i64 0, .int .i64 0, .string ByteArray.empty] 66 (0, 0))) := by rw [hw2]; exact box_set HB1.out (by omega)
  have HG2 : Hid (w.grownBy w2 (some r)) := by rw [hw2]; exact grown_trans HG1.out grown_set
  have hr2' : Rdr w2 r B (l.drop 16) := by rw [List.drop_drop] at hr2; exact hr2
  have HR2 := hide hr2'
  clear hw2 hr2 hr2' HB1 HG1 HR1
  go_wp2_with fail
  refine (number_any r 1 B (l.drop 16) w2 HR2.out (bts_drop hl 16) (by omega)).mono ?_
  rintro e w3 ⟨rfl, ⟨u3, hw3⟩, hr3⟩
  have HB3 : Hid (w3.heap[w.heap.size]? = some (.cells #[.int .i64 0, .int .i64 0, .string ByteArray.empty] 66 (0, 0))) := by rw [hw3]; exact box_set HB2.out (by omega)
  have HG3 : Hid (w.grownBy w3 (some r)) := by rw [hw3]; exact grown_trans HG2.out grown_set
  have HR3 := hide hr3
  clear hw3 hr3 HB2 HG2 HR2
  have hone := rdNum_one (bts_drop hl 16)
  have hent : Hid (rdEnt l = ⟨rdNum (l.take 8), rdNum ((l.drop 8).take 8), strOfNums (((l.drop 16).drop 1).take (rdNum ((l.drop 16).take 1)).toNat)⟩) := rfl
  have hrst : Hid (rdRest l = ((l.drop 16).drop 1).drop (rdNum ((l.drop 16).take 1)).toNat) := rfl
  generalize rdNum ((l.drop 16).take 1) = N at *
  obtain ⟨m, rfl⟩ := Int.eq_ofNat_of_zero_le hone.1
  rw [Int.toNat_natCast] at hent hrst
  have hm : m < 256 := by omega
  clear hone
  have CT := hide (take_any r m B ((l.drop 16).drop 1) w3 HR3.out (by omega))
  go_wp2_with fail
  refine CT.out.mono ?_
  rintro e w4 ⟨v4, u4, rfl, hw4, hb4, hr4⟩
  have hB4 : w4.heap[w.heap.size]? = some (.cells #[.int .i64 0, .int .i64 0, .string ByteArray.empty] 66 (0, 0)) := by rw [hw4]; exact box_set HB3.out (by omega)
  have HG4 : Hid (w.grownBy w4 (some r)) := by rw [hw4]; exact grown_trans HG3.out grown_set
  have HR4 := hide hr4
  have hcv := conv_any hb4
  have k0 : w4.cell? ⟨w.heap.size, 0, none⟩ = some (.int .i64 0) := by simp [World.cell?, hB4]
  have k1 : w4.cell? ⟨w.heap.size, 1, none⟩ = some (.int .i64 0) := by simp [World.cell?, hB4]
  have k2 : w4.cell? ⟨w.heap.size, 2, none⟩ = some (.string ByteArray.empty) := by simp [World.cell?, hB4]
  have f0 : w4.frozen? ⟨w.heap.size, 0, none⟩ = false := by simp [World.frozen?, hB4]
  have f1 : w4.frozen? ⟨w.heap.size, 1, none⟩ = false := by simp [World.frozen?, hB4]
  have f2 : w4.frozen? ⟨w.heap.size, 2, none⟩ = false := by simp [World.frozen?, hB4]
  have HB4 := hide hB4
  generalize strOfNums (((l.drop 16).drop 1).take m) = X at *
  generalize rdNum (l.take 8) = S at *
  generalize rdNum ((l.drop 8).take 8) = T at *
  clear hw4 hb4 hr4 HB3 HG3 HR3 CT hB4
  go_wp2
  have hoth : ∀ k, k ≠ w.heap.size → (((w4.setCell ⟨w.heap.size, 0, none⟩ (.int .i64 S)).setCell ⟨w.heap.size, 1, none⟩ (.int .i64 T)).setCell ⟨w.heap.size, 2, none⟩ (.string X)).heap[k]? = w4.heap[k]? := fun k hk => by rw [set_other hk, set_other hk, set_other hk]
  have hbox : (((w4.setCell ⟨w.heap.size, 0, none⟩ (.int .i64 S)).setCell ⟨w.heap.size, 1, none⟩ (.int .i64 T)).setCell ⟨w.heap.size, 2, none⟩ (.string X)).heap[w.heap.size]? = some (Obj.cells #[.int .i64 S, .int .i64 T, .string X] 66 (0, 0)) := by
    simp [World.setCell, Array.getElem?_modify, HB4.out]
  have hsz5 : (((w4.setCell ⟨w.heap.size, 0, none⟩ (.int .i64 S)).setCell ⟨w.heap.size, 1, none⟩ (.int .i64 T)).setCell ⟨w.heap.size, 2, none⟩ (.string X)).heap.size = w4.heap.size := by simp [World.setCell]
  have hfr5 : Hid (w4.grownBy (((w4.setCell ⟨w.heap.size, 0, none⟩ (.int .i64 S)).setCell ⟨w.heap.size, 1, none⟩ (.int .i64 T)).setCell ⟨w.heap.size, 2, none⟩ (.string X)) (some w.heap.size)) := ⟨rfl, rfl, rfl, by rw [hsz5]; exact Nat.le_refl _, fun k _ hne => hoth k (fun e => hne (by rw [e]))⟩
  generalize (((w4.setCell ⟨w.heap.size, 0, none⟩ (.int .i64 S)).setCell ⟨w.heap.size, 1, none⟩ (.int .i64 T)).setCell ⟨w.heap.size, 2, none⟩ (.string X)) = w5 at *
  have q0 : w5.cell? ⟨w.heap.size, 0, none⟩ = some (.int .i64 S) := by simp [World.cell?, hbox]
  have q1 : w5.cell? ⟨w.heap.size, 1, none⟩ = some (.int .i64 T) := by simp [World.cell?, hbox]
  have q2 : w5.cell? ⟨w.heap.size, 2, none⟩ = some (.string X) := by simp [World.cell?, hbox]
  have HR5 : Rdr w5 r B (rdRest l) := by rw [hrst.out]; exact rdr_other HR4.out HB4.out (by omega) hoth
  have HG5 : w.grownBy w5 (some r) := ⟨hfr5.out.os.trans HG4.out.os, hfr5.out.tape.trans HG4.out.tape, hfr5.out.output.trans HG4.out.output, Nat.le_trans HG4.out.size hfr5.out.size, fun k hk hne => by rw [hoth k (by omega)]; exact HG4.out.block k hk hne⟩
  refine bodyPost_ret (v := .agg #[.int .i64 S, .int .i64 T, .string X]) (by simp [results, Tryz.results245, go_sem, q0, q1, q2]) rfl ⟨by rw [hent.out], HR5, HG5⟩
end Go.Proofs.YtkncboinfcnklaaGreatDoor

namespace Go.Proofs.YtkncboinfcnklaaGreatDoor
open Go.RowKit Go.Deep Go.Proofs.YtkncboinfcnklaaGreatDoor.Mth

theorem Tryz.info66 : (Tryz.prog.info? 66).map (fun i => (i.zero, i.size, i.bytes)) = some (some (.agg #[.int .i64 0, .int .i64 0, .string ByteArray.empty]), 3, 32) := by kernel_rfl

/-! ### entries, one after the other -/
def rests : Nat → List Int → List Int
  | 0, b => b
  | k + 1, b => rests k (rdRest b)
theorem rests_succ : ∀ (k : Nat) (b : List Int), rests (k + 1) b = rdRest (rests k b)
  | 0, _ => rfl
  | k + 1, b => by rw [rests, rests_succ k (rdRest b)]; rfl
theorem rdEnts_succ : ∀ (k : Nat) (b : List Int), rdEnts (k + 1) b = rdEnts k b ++ [rdEnt (rests k b)]
  | 0, _ => rfl
  | k + 1, b => by rw [rdEnts, rdEnts_succ k (rdRest b)]; rfl
theorem rdEnts_len : ∀ (k : Nat) (b : List Int), (rdEnts k b).length = k
  | 0, _ => rfl
  | k + 1, b => by rw [rdEnts, List.length_cons, rdEnts_len]
theorem bts_rest {b : List Int} (h : Bts b) : Bts (rdRest b) := bts_drop (bts_drop (bts_drop h 16) 1) _
theorem bts_rests : ∀ (k : Nat) {b : List Int}, Bts b → Bts (rests k b)
  | 0, _, h => h
  | k + 1, _, h => bts_rests k (bts_rest h)

abbrev eC (e : Ent) : List Value := [.int .i64 e.seq, .int .i64 e.time, .string e.text]
/-- A row of entries of the call's own. -/
def CurE (w0 w : World) (v : Value) (l : List Ent) : Prop := Below w0.heap.size w0 w ∧ w.ownsRow w0.heap.size 66 3 v l.length (l.flatMap eC)

theorem flat_len : ∀ l : List Ent, (l.flatMap eC).length = 3 * l.length
  | [] => rfl
  | e :: l => by rw [List.flatMap_cons, List.length_append, flat_len l]; simp; omega
theorem flat_get : ∀ (l : List Ent) (j : Nat), j < l.length → (l.flatMap eC)[j * 3]? = some (.int .i64 (l.getD j e0).seq) ∧ (l.flatMap eC)[j * 3 + 1]? = some (.int .i64 (l.getD j e0).time) ∧ (l.flatMap eC)[j * 3 + 2]? = some (.string (l.getD j e0).text)
  | [], _, h => by simp at h
  | e :: l, 0, _ => by simp [List.flatMap_cons]
  | e :: l, j + 1, h => by
    have := flat_get l j (by simpa using h)
    rw [List.flatMap_cons, show (j + 1) * 3 = (eC e).length + j * 3 by simp; omega, show (eC e).length + j * 3 + 1 = (eC e).length + (j * 3 + 1) by omega, show (eC e).length + j * 3 + 2 = (eC e).length + (j * 3 + 2) by omega]
    rw [List.getElem?_append_right (by omega), List.getElem?_append_right (by omega), List.getElem?_append_right (by omega)]
    simp only [Nat.add_sub_cancel_left]
    simpa [List.getD] using this

theorem rdE_own {w : World} {B : Nat} {v : Value} {l : List Ent} (h : w.ownsRow B 66 3 v l.length (l.flatMap eC)) : RdE w v l := by
  have hc := fun g hg => h.cells (g := g) hg
  rcases h.2 with ⟨h0, h1⟩ | ⟨g, cap, cur, hv, _, hg, h1, h2, _⟩
  · have := List.length_eq_zero_iff.1 h1
    subst this
    exact ⟨none, 0, h0, Nat.le_refl _, by unfold maxLen; omega, Or.inl rfl⟩
  · refine ⟨_, cap, hv, h1, h2, Or.inr ⟨g, 0, rfl, fun j hj => ?_⟩⟩
    have hh := hc g (by rw [hv]; rfl)
    obtain ⟨q0, q1, q2⟩ := flat_get l j hj
    have hadd : ∀ i, (⟨g, 0, none⟩ : Addr).add i = ⟨g, 0 + i, none⟩ := fun i => by unfold Addr.add; split <;> simp_all
    exact ⟨by have := hh _ _ q0; rwa [hadd] at this, by have := hh _ _ q1; rwa [hadd] at this, by have := hh _ _ q2; rwa [hadd] at this⟩

theorem curE_append {w0 w w2 : World} {v v2 : Value} {o : Obj} {l : List Ent} {e : Ent} (h : CurE w0 w v l) (h2 : w2.ownsRow w0.heap.size 66 3 v2 (l.length + 1) (l.flatMap eC ++ eC e)) (hg : (w.alloc o).grownBy w2 v.ownBlock) : CurE w0 w2 v2 (l ++ [e]) := by
  refine ⟨?_, by simpa [List.flatMap_append] using h2⟩
  refine (h.1.trans ((below_alloc w o).mono h.1.size)).grown hg (by have := h.1.size; simp; omega) ?_
  intro k hk
  exact (h.2.lt k hk).1

theorem cell_three_new (w : World) (x y z : Value) (t : TypeId) : ∀ j u, [x, y, z][j]? = some u → (w.alloc (.cells #[x, y, z] t)).cell? ((⟨w.heap.size, 0, none⟩ : Addr).add j) = some u := by
  intro j u hj
  have hadd : (⟨w.heap.size, 0, none⟩ : Addr).add j = ⟨w.heap.size, j, none⟩ := by unfold Addr.add; split <;> simp_all
  have hb : (w.alloc (.cells #[x, y, z] t)).heap[w.heap.size]? = some (.cells #[x, y, z] t (0, 0)) := by
    show (w.heap.push _)[w.heap.size]? = _
    rw [Array.getElem?_push, if_pos rfl]
  rw [hadd]
  simp only [World.cell?, hb]
  simpa using hj

theorem rdr_new {w : World} {v : Value} {l : List Int} (h : RdB w v l) : Rdr (w.alloc (.cells #[v] 337)) w.heap.size w.heap.size l := by
  refine ⟨v, ?_, h.below (below_alloc w _), ?_⟩
  · show (w.heap.push _)[w.heap.size]? = _
    rw [Array.getElem?_push, if_pos rfl]
  · obtain ⟨a, c, rfl, _, _, h⟩ := h
    rcases h with h | ⟨b, o, rfl, h⟩
    · exact Or.inl h
    · by_cases q : l = []
      · exact Or.inl q
      · refine Or.inr fun a' n' c' e => ?_
        injection e with e _ _
        injection e with e
        subst e
        exact World.block_lt_of_cell? _ _ (h 0 (List.length_pos_iff.2 q))

theorem rdr_append {w0 w w2 : World} {v : Value} {r n : Nat} {o : Obj} {l : List Int} {xs : List Value} (h : Rdr w r w0.heap.size l) (ho : w.ownsRow w0.heap.size 66 3 v n xs) (hg : (w.alloc o).grownBy w2 v.ownBlock) (hs : w0.heap.size ≤ w.heap.size) : Rdr w2 r w0.heap.size l := by
  obtain ⟨vl, h1, h2, h3⟩ := h
  have hk : ∀ k, k < w.heap.size → v.ownBlock ≠ some k → w2.heap[k]? = w.heap[k]? := fun k hk hne => by
    rw [hg.block k (by simp; omega) (fun e => hne e.symm), Below.heap_alloc w o k hk]
  refine ⟨vl, ?_, ?_, h3⟩
  · rw [hk r (Array.getElem?_eq_some_iff.1 h1).1 ?_]
    · exact h1
    · intro e
      rcases ho.2 with ⟨h0, _⟩ | ⟨g, cap, cur, hv, _, hgg, _⟩
      · subst h0; simp [Value.ownBlock] at e
      · subst hv
        simp [Value.ownBlock] at e
        subst e
        rw [hgg] at h1
        injection h1 with h1
        injection h1 with _ h1 _
        exact absurd h1 (by decide)
  · obtain ⟨a, c, rfl, hc, hm, h⟩ := h2
    refine ⟨a, c, rfl, hc, hm, ?_⟩
    rcases h with h | ⟨b, o', rfl, h⟩
    · exact Or.inl h
    · rcases h3 with h3 | h3
      · exact Or.inl h3
      · have hlt := h3 _ _ _ rfl
        refine Or.inr ⟨b, o', rfl, fun j hj => ?_⟩
        rw [World.cell?_of_block (w := w) (a := ⟨b, o' + j, none⟩) (hk b (by simp at hlt; omega) ?_)]
        · exact h j hj
        · intro e
          have := (ho.lt b e).1
          simp at hlt
          omega

theorem curE_reader {w0 w w' : World} {v : Value} {r : Nat} {l : List Ent} {m : List Int} (h : CurE w0 w v l) (hr : Rdr w r w0.heap.size m) (h0 : w0.heap.size ≤ r) (hg : w.grownBy w' (some r)) : CurE w0 w' v l := by
  refine ⟨h.1.grown hg h.1.size (fun k e => by injection e with e; omega), h.2.kept hg ?_⟩
  rcases h.2.2 with ⟨h0, _⟩ | ⟨g, cap, cur, hv, _, hgg, _⟩
  · subst h0; exact Or.inl rfl
  · refine Or.inr fun e => ?_
    subst hv
    simp [Value.ownBlock] at e
    subst e
    obtain ⟨vl, h1, _⟩ := hr
    rw [hgg] at h1
    injection h1 with h1
    injection h1 with _ h1 _
    exact absurd h1 (by decide)
end Go.Proofs.YtkncboinfcnklaaGreatDoor

namespace Go.Proofs.YtkncboinfcnklaaGreatDoor
open Go.RowKit Go.Deep Go.Proofs.YtkncboinfcnklaaGreatDoor.Mth

theorem rdNum_two {l : List Int} (h : Bts l) : 0 ≤ rdNum (l.take 2) ∧ rdNum (l.take 2) < 65536 := by
  match l, h with
  | [], _ => simp [rdNum]
  | [x], h =>
    have := h x (by simp)
    simp only [List.take, rdNum, List.foldl_cons, List.foldl_nil]
    rw [wrap_id _ (by omega) (by omega)]
    omega
  | x :: y :: l, h =>
    have h1 := h x (by simp)
    have h2 := h y (by simp)
    simp only [List.take, rdNum, List.foldl_cons, List.foldl_nil]
    rw [wrap_id (0 * 256 + x) (by omega) (by omega), wrap_id _ (by omega) (by omega)]
    omega

set_option maxRecDepth 100000 in
set_option maxHeartbeats 1000000 in
theorem readE_any (v : Value) (l : List Int) (w : World) (h : RdB w v l) (hl : Bts l) :
    Calls Tryz.prog 195 #[v] w fun e w' => ∃ v', e = .returned v' ∧ CurE w w' v' (rdAll l) := by
  have HR0 := hide (rdr_new h)
  have HB0 := hide (below_alloc w (.cells #[v] 337))
  have hn2 := rdNum_two hl
  obtain ⟨a, c, rfl, hc, hm⟩ := rdB_len h
  obtain ⟨i0, hi0, hz0, hz1, hz2⟩ := info_parts Tryz.info66
  clear h
  have hW1 : w.heap.size < (w.alloc (.cells #[.slice a l.length c] 337)).heap.size := by simp
  go_enter Tryz.func195, Tryz.ntmps195
  go_wp2_with fail
  have CN := hide (number_any w.heap.size 2 w.heap.size l _ HR0.out hl (by omega))
  generalize w.alloc (.cells #[.slice a l.length c] 337) = W1 at *
  refine CN.out.mono ?_
  rintro e w2 ⟨rfl, ⟨u2, hw2⟩, hr2⟩
  have HR2 := hide hr2
  have HB2 : Hid (Below w.heap.size w w2) := by rw [hw2]; exact HB0.out.setCell (Nat.le_refl _) _
  have hall : Hid (rdAll l = rdEnts (min (rdNum (l.take 2)) 64).toNat (l.drop 2)) := rfl
  have HBD := hide (bts_drop hl 2)
  clear hw2 hr2 CN HR0 HB0
  generalize rdNum (l.take 2) = N at *
  have hmin : ∃ m : Nat, min N 64 = (m : Int) ∧ m ≤ 64 := ⟨(min N 64).toNat, by omega, by omega⟩
  obtain ⟨m, hmm, hm64⟩ := hmin
  rw [hmm, Int.toNat_natCast] at hall
  generalize l.drop 2 = D at *
  go_wp2_with fail
  go_loopw [4, 9] (fun b i wr => ∃ k : Nat, k ≤ m ∧ i = .int .i64 k ∧ CurE w wr b (rdEnts k D) ∧ Rdr wr w.heap.size w.heap.size (rests k D)) (fun _ i _ => m - (intOf i).toNat)
  case atStart => exact ⟨0, Nat.zero_le _, rfl, ⟨HB2.out, World.ownsRow_nil _ _ _ _⟩, HR2.out⟩
  case round =>
    obtain ⟨k, hk, rfl, hcur, hrdr⟩ := hrel
    by_cases hlt : k < m
    · have CE := hide (entry_any w.heap.size w.heap.size (rests k D) wr hrdr (bts_rests k HBD.out))
      have HC := hide hcur
      have HRD := hide hrdr
      have hes := hide (rdEnts_succ k D)
      have hrs := hide (rests_succ k D)
      have hlen := rdEnts_len k D
      clear hcur hrdr
      go_wp2_with fail
      refine CE.out.mono ?_
      rintro e w3 ⟨rfl, hr3, hg3⟩
      have HC3 := hide (curE_reader HC.out HRD.out (Nat.le_refl _) hg3)
      have HR3 := hide hr3
      have hsz3 := HC3.out.1.size
      clear hr3 hg3 CE
      generalize rdEnt (rests k D) = E at *
      obtain ⟨s, t, x⟩ := E
      go_wp2_with (first | (at_builtin; refine wpList_append_own _ rfl _ _ 57 rfl w.heap.size 66 i0 (.agg #[.int .i64 0, .int .i64 0, .string ByteArray.empty]) 3 32 Tryz.underlying57 hi0 hz0 hz1 hz2 rfl (by decide) _ _ _ rfl (HC3.out.2.alloc _) ⟨w3.heap.size, 0, none⟩ 1 1 [.int .i64 s, .int .i64 t, .string x] rfl rfl (cell_three_new _ _ _ _ _) (by intro u hu; simp at hu; rcases hu with rfl | rfl | rfl <;> rfl) (by unfold maxLen; omega) (by omega) (by simp; omega) ?_; intro v4 w4 hown4 hgrow4 _; have HC4 := hide (curE_append (e := ⟨s, t, x⟩) HC3.out hown4 hgrow4); have HR4 := hide (rdr_append HR3.out HC3.out.2 hgrow4 hsz3); clear hown4 hgrow4))
      go_roundw
      case rel => exact ⟨k + 1, by omega, by go_num, by rw [hes.out]; exact HC4.out, by rw [hrs.out]; exact HR4.out⟩
      case measure => simp [intOf]; omega
    · have hke : k = m := by omega
      subst hke
      have HC := hide hcur
      clear hcur hrdr
      go_wp2
      go_ret
      exact ⟨_, rfl, by rw [hall.out]; exact HC.out⟩
end Go.Proofs.YtkncboinfcnklaaGreatDoor

namespace Go.Proofs.YtkncboinfcnklaaGreatDoor
open Go.RowKit Go.Deep Go.Proofs.YtkncboinfcnklaaGreatDoor.Mth

theorem bytesOf_back {l : List Int} (h : Bts l) : (Lib.bytesOf l).map (fun u => (u.toNat : Int)) = l := by
  unfold Lib.bytesOf
  rw [List.map_map]
  conv => rhs; rw [← List.map_id l]
  apply List.map_congr_left
  intro x hx
  have := h x hx
  simp
  omega
theorem eqB {xs ys : List Int} (hx : Bts xs) (hy : Bts ys) : (Lib.bytesOf xs == Lib.bytesOf ys) = decide (xs = ys) := by
  by_cases h : xs = ys
  · subst h; simp
  · rw [decide_eq_false h, beq_eq_false_iff_ne]
    intro e
    exact h (by rw [← bytesOf_back hx, e, bytesOf_back hy])

theorem equal_any {v1 v2 : Value} {xs ys : List Int} {w : World} (h1 : RdB w v1 xs) (h2 : RdB w v2 ys) (hx : Bts xs) (hy : Bts ys) : Calls Tryz.prog 196 #[v1, v2] w fun e w' => e = .returned (.bool (decide (xs = ys))) ∧ w' = w := by
  rw [← eqB hx hy]
  exact Any.bytes_Equal { Tryz.laysEqual with } v1 v2 xs ys w (conv_any h1) (conv_any h2)

theorem rdAll_len (l : List Int) : (rdAll l).length ≤ 64 := by unfold rdAll; rw [rdEnts_len]; omega

theorem curE_below {w0 w w' : World} {v : Value} {l : List Ent} (h : CurE w0 w v l) (hb : Below w.heap.size w w') : CurE w0 w' v l :=
  ⟨h.1.trans (hb.mono h.1.size), h.2.kept (row := none) ⟨hb.os, hb.tape, hb.output, hb.size, fun k hk _ => hb.block k hk⟩ (by cases v.ownBlock <;> simp)⟩

set_option maxRecDepth 100000 in
set_option maxHeartbeats 1000000 in
theorem unpack_yes (v : Value) (l : List Int) (w : World) (h : RdB w v l) (hl : Bts l) (hT : Tab w) (hS : Seg (rdAll l)) (hp : pk (rdAll l) = l) :
    Calls Tryz.prog 118 #[v] w fun e w' => ∃ v', e = .returned (.tuple #[v', .int .i64 0]) ∧ CurE w w' v' (rdAll l) := by
  have CR := hide (readE_any v l w h hl)
  have HB := hide h
  have HT := hide hT
  have HP := hide hp
  have HS := hide hS
  clear h hT hp hS
  go_enter Tryz.func118, Tryz.ntmps118
  go_wp2_with fail
  refine CR.out.mono ?_
  rintro e w1 ⟨v1, rfl, hc1⟩
  have HC1 := hide hc1
  have CP := hide (pack_yes v1 (rdAll l) w1 (rdE_own hc1.2) (HT.out.below hc1.1 (Nat.le_refl _)) HS.out)
  clear hc1 CR
  go_wp2_with fail
  refine CP.out.mono ?_
  rintro e w2 ⟨v2, rfl, hc2⟩
  have HC2 := hide (curE_below HC1.out hc2.1)
  have CE := hide (equal_any (rdB_own hc2.2) (HB.out.below HC2.out.1) (by rw [HP.out]; exact hl) hl)
  rw [decide_eq_true HP.out] at CE
  clear hc2 CP
  go_wp2_with fail
  refine CE.out.mono ?_
  rintro e w3 ⟨rfl, hw3⟩
  rw [hw3]
  clear hw3 w3 CE
  go_wp2
  go_ret2
  exact ⟨_, rfl, HC2.out⟩

set_option maxRecDepth 100000 in
set_option maxHeartbeats 1000000 in
theorem unpack_no1 (v : Value) (l : List Int) (w : World) (h : RdB w v l) (hl : Bts l) (hS : segB (rdAll l) = false) :
    Calls Tryz.prog 118 #[v] w fun e w' => e = .returned (.tuple #[.slice none 0 0, .int .i64 2]) ∧ Below w.heap.size w w' := by
  have CR := hide (readE_any v l w h hl)
  have HS := hide hS
  clear h hS
  go_enter Tryz.func118, Tryz.ntmps118
  go_wp2_with fail
  refine CR.out.mono ?_
  rintro e w1 ⟨v1, rfl, hc1⟩
  have HC1 := hide hc1
  have CP := hide (pack_no v1 (rdAll l) w1 (rdE_own hc1.2) (rdAll_len l) HS.out)
  clear hc1 CR
  go_wp2_with fail
  refine CP.out.mono ?_
  rintro e w2 ⟨rfl, hb2⟩
  have HB2 := hide (HC1.out.1.trans (hb2.mono HC1.out.1.size))
  clear hb2 CP
  go_wp2
  go_ret2
  exact ⟨rfl, HB2.out⟩

set_option maxRecDepth 100000 in
set_option maxHeartbeats 1000000 in
theorem unpack_no2 (v : Value) (l : List Int) (w : World) (h : RdB w v l) (hl : Bts l) (hT : Tab w) (hS : Seg (rdAll l)) (hp : pk (rdAll l) ≠ l) :
    Calls Tryz.prog 118 #[v] w fun e w' => e = .returned (.tuple #[.slice none 0 0, .int .i64 2]) ∧ Below w.heap.size w w' := by
  have CR := hide (readE_any v l w h hl)
  have HB := hide h
  have HT := hide hT
  have HP := hide hp
  have HS := hide hS
  clear h hT hp hS
  go_enter Tryz.func118, Tryz.ntmps118
  go_wp2_with fail
  refine CR.out.mono ?_
  rintro e w1 ⟨v1, rfl, hc1⟩
  have HC1 := hide hc1
  have CP := hide (pack_yes v1 (rdAll l) w1 (rdE_own hc1.2) (HT.out.below hc1.1 (Nat.le_refl _)) HS.out)
  clear hc1 CR
  go_wp2_with fail
  refine CP.out.mono ?_
  rintro e w2 ⟨v2, rfl, hc2⟩
  have HC2 := hide (curE_below HC1.out hc2.1)
  have CE := hide (equal_any (rdB_own hc2.2) (HB.out.below HC2.out.1) (pk_bts _ HS.out.2.1) hl)
  rw [decide_eq_false HP.out] at CE
  clear hc2 CP
  go_wp2_with fail
  refine CE.out.mono ?_
  rintro e w3 ⟨rfl, hw3⟩
  rw [hw3]
  clear hw3 w3 CE
  go_wp2
  go_ret2
  exact ⟨rfl, HC2.out.1⟩

/-- Whether these bytes are a segment. -/
def isPk (l : List Int) : Prop := Seg (rdAll l) ∧ pk (rdAll l) = l

theorem unpack_any (v : Value) (l : List Int) (w : World) (h : RdB w v l) (hl : Bts l) (hT : Tab w) :
    Calls Tryz.prog 118 #[v] w fun e w' => (isPk l ∧ ∃ v', e = .returned (.tuple #[v', .int .i64 0]) ∧ CurE w w' v' (rdAll l)) ∨ (¬ isPk l ∧ e = .returned (.tuple #[.slice none 0 0, .int .i64 2]) ∧ Below w.heap.size w w') := by
  cases hS : segB (rdAll l) with
  | false => exact (unpack_no1 v l w h hl hS).mono fun e w' q => Or.inr ⟨(fun k => by rw [segB_of k.1] at hS; exact Bool.noConfusion hS), q⟩
  | true =>
    have hS' := seg_of hS (rdAll_len l)
    by_cases hp : pk (rdAll l) = l
    · exact (unpack_yes v l w h hl hT hS' hp).mono fun e w' q => Or.inl ⟨⟨hS', hp⟩, q⟩
    · exact (unpack_no2 v l w h hl hT hS' hp).mono fun e w' q => Or.inr ⟨fun k => hp k.2, q⟩

/-- What Pack made is a segment. -/
theorem pk_is {l : List Ent} (h : Seg l) : rdAll (pk l) = l ∧ isPk (pk l) := by
  have e : rdAll (pk l) = l := by
    unfold pk body
    rw [List.append_assoc]
    exact rd_hd h _
  exact ⟨e, by unfold isPk; rw [e]; exact ⟨h, rfl⟩⟩
/-- With a byte less there is none. -/
theorem pk_less {l : List Ent} (h : Seg l) : ¬ isPk ((pk l).take ((pk l).length - 1)) := by
  have hlen : (pk l).length = (body l).length + 4 := by unfold pk; rw [List.length_append, num_len]
  have e : rdAll ((pk l).take ((pk l).length - 1)) = l := by
    rw [hlen]
    unfold pk
    rw [List.take_append, List.take_of_length_le (by omega)]
    unfold body
    rw [List.append_assoc]
    exact rd_hd h _
  rintro ⟨_, k⟩
  rw [e] at k
  have := congrArg List.length k
  rw [List.length_take] at this
  omega
/-- With a byte more there is none. -/
theorem pk_more {l : List Ent} (h : Seg l) (x : Int) : ¬ isPk (pk l ++ [x]) := by
  have e : rdAll (pk l ++ [x]) = l := by
    unfold pk body
    rw [List.append_assoc, List.append_assoc]
    exact rd_hd h _
  rintro ⟨_, k⟩
  rw [e] at k
  have := congrArg List.length k
  simp at this
/-- With a byte that is another there is none. -/
theorem pk_other {l : List Ent} (h : Seg l) (i : Nat) (v : Int) (h0 : 0 ≤ v) (h1 : v < 256) (hi : i < (pk l).length) (hv : v ≠ (pk l).getD i 0) : ¬ isPk ((pk l).set i v) := by
  rintro ⟨hS, k⟩
  refine pk_set (A := body l) (B := body (rdAll ((pk l).set i v))) (body_bts l h.2.1) i v h0 h1 hi ?_ rfl rfl k
  intro e
  apply hv
  rw [e, List.getD, List.getElem?_eq_getElem hi]
  rfl
end Go.Proofs.YtkncboinfcnklaaGreatDoor
