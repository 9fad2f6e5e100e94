import Derived.Test.YtkncboinfcnklaaGreatDoorQ29
import Derived.Deep.WholeRow
namespace Go.Proofs.YtkncboinfcnklaaGreatDoor.Lw
open Go.RowKit Go.Deep Go.Shelf Go.Proofs.YtkncboinfcnklaaGreatDoor.Mth Go.Proofs.YtkncboinfcnklaaGreatDoor.Rl

theorem fold_at : ∀ (l : List Value) (k : Nat) (cs : Array Value), k + l.length ≤ cs.size → ∀ j, ((l.zipIdx k).foldl (fun cs x => cs.setIfInBounds x.2 x.1) cs)[j]? = if k ≤ j ∧ j < k + l.length then l[j - k]? else cs[j]?
  | [], k, cs, _, j => by simp; omega
  | a :: l, k, cs, h, j => by
    rw [List.zipIdx_cons, List.foldl_cons, fold_at l (k + 1) _ (by simp at h ⊢; omega) j]
    simp only [List.length_cons] at h ⊢
    by_cases h1 : k + 1 ≤ j ∧ j < k + 1 + l.length
    · rw [if_pos h1, if_pos (by omega), show j - k = (j - (k + 1)) + 1 by omega, List.getElem?_cons_succ]
    · rw [if_neg h1, Array.getElem?_setIfInBounds]
      by_cases h2 : k = j
      · subst h2
        rw [if_pos rfl, if_pos (by omega), if_pos (by omega)]
        simp
      · rw [if_neg h2, if_neg (by omega)]
/-- A list of one value of many cells, as it is laid. -/
theorem fold_all {z c : Array Value} (h : z.size = c.size) : Array.foldl (fun cs x => cs.setIfInBounds x.2 x.1) z c.zipIdx 0 c.size = c := by
  have h1 : Array.foldl (fun (cs : Array Value) (x : Value × Nat) => cs.setIfInBounds x.2 x.1) z c.zipIdx 0 c.size = (c.toList.zipIdx 0).foldl (fun cs x => cs.setIfInBounds x.2 x.1) z := by
    rw [← Array.toList_zipIdx, Array.foldl_toList]
    simp
  rw [h1]
  apply Array.ext_getElem?
  intro j
  rw [fold_at c.toList 0 z (by simp; omega) j]
  split
  · simp
  · rename_i hn
    simp at hn
    rw [Array.getElem?_eq_none (by omega), Array.getElem?_eq_none (by omega)]
theorem all_one {c : Array Value} (h : c.all (·.oneCell') = true) : ∀ u ∈ c.toList, u.oneCell' = true := fun u hu => Array.all_eq_true_iff_forall_mem.1 h u (by simpa using hu)
theorem set_self {C : Array Value} {j : Nat} {v : Value} (h : C[j]? = some v) : C.setIfInBounds j v = C := by
  apply Array.ext_getElem?
  intro k
  rw [Array.getElem?_setIfInBounds]
  by_cases e : j = k
  · subst e
    rw [if_pos rfl]
    split
    · exact h.symm
    · rename_i hn
      rw [Array.getElem?_eq_none (by omega)]
  · rw [if_neg e]
/-! ### the walk of lays, apart from what it means -/
structure LyC (w2 w3 : World) (cs : Array Value) (S : ByteArray) (n er : Int) (FP : Value → World → Prop) : Prop where
  sz : cs.size = 20
  one : cs.all (·.oneCell') = true
  dn : cs[18]? = some (.bool false)
  bel : Below w2.heap.size w2 w3
  af : ∀ W, Below w3.heap.size w3 W → W.heap[w3.heap.size]? = some (Obj.cells cs 234 (0, 0)) → Calls Tryz.prog 128 #[ptrV w3.heap.size, .string S] W fun e W' => ∃ ck a l c, e = .returned (.agg #[.int .i64 ck, .slice a l c]) ∧ Below W.heap.size W W'
  ap : ∀ W, Below w3.heap.size w3 W → W.heap[w3.heap.size]? = some (Obj.cells cs 234 (0, 0)) → Calls Tryz.prog 129 #[ptrV w3.heap.size, .string S] W fun e W' => e = .returned (.tuple #[.int .i64 n, .int .i64 er]) ∧ ∃ c9 : Array Value, c9.size = 20 ∧ c9.all (·.oneCell') = true ∧ W'.heap[w3.heap.size]? = some (Obj.cells c9 234 (0, 0)) ∧ Below w2.heap.size w2 W' ∧ ∀ W10 mv, Below w2.heap.size w2 W10 → Below W'.heap.size W' W10 → W10.ownsRow w2.heap.size 234 20 mv 1 c9.toList → FP mv W10
structure LyQ (w2 : World) (hb ob d mb mc : Nat) (S : ByteArray) (C : Array Value) (n er : Int) (FP : Value → World → Prop) : Prop where
  c1 : w2.cell? ⟨hb, 1, none⟩ = some (ptrV d)
  c9 : w2.cell? ⟨hb, 9, none⟩ = some (.slice (some ⟨mb, 0, none⟩) 1 mc) ∧ w2.frozen? ⟨hb, 9, none⟩ = false
  o0 : w2.cell? ⟨ob, 0, none⟩ = some (.int .i64 12)
  o4 : w2.cell? ⟨ob, 4, none⟩ = some (.string S)
  st : Calls Tryz.prog 41 #[ptrV d] w2 fun e w' => e = .returned (.bool false) ∧ w' = w2
  rg : w2.rangeAt mb 0 C.toList
  sz : C.size = 20
  mc : 1 ≤ mc ∧ mc ≤ maxLen
  cp : Calls Tryz.prog 127 #[.agg C] w2 fun e w3 => ∃ cs, e = .returned (.agg cs) ∧ LyC w2 w3 cs S n er FP

set_option maxRecDepth 100000 in
set_option maxHeartbeats 8000000 in
theorem lays_walk {w W0 : World} {wb hb ob lb d : Nat} (A B' C' : Int) (S T : ByteArray) (n er : Int) (FP : Value → World → World → Prop) (hW0 : W0 = w.alloc (Obj.cells #[.int .i64 12, .int .i64 A, .int .i64 B', .int .i64 C', .string S, .string T] 94)) (hob : ob = w.heap.size)
    (d0 : W0.cell? ⟨hb, 0, none⟩ = some (ptrV lb)) (d1 : W0.cell? ⟨hb, 1, none⟩ = some (ptrV d)) (o0 : W0.cell? ⟨ob, 0, none⟩ = some (.int .i64 12)) (o4 : W0.cell? ⟨ob, 4, none⟩ = some (.string S))
    (cs : Calls Tryz.prog 41 #[ptrV d] W0 fun e w' => e = .returned (.bool false) ∧ w' = W0)
    (cp : Calls Tryz.prog 26 #[ptrV lb, .string S] W0.drew fun e w2 => e = .returned (.tuple #[.int .i64 n, .int .i64 er]) ∧ ∃ mb mc C, LyQ w2 hb ob d mb mc S C n er (fun mv W => FP mv w2 W)) :
    Calls Tryz.prog 68 #[ptrV wb, ptrV hb, oV ⟨12, A, B', C', S, T⟩] w fun e w' => e = .returned (.bool true) ∧ ∃ mv w2 W10, FP mv w2 W10 ∧ w' = W10.setCell ⟨hb, 9, none⟩ mv := by
  have CS := hide cs
  have CP := hide cp
  have HW := hide hW0
  have HOB := hide hob
  clear cs cp hW0 hob
  simp only [oV]
  go_enter Tryz.func68, Tryz.ntmps68
  go_upto_region 1 with fail
  rw [← HW.out, ← HOB.out]
  go_upto_region 5 with (first | (go_at_call 41; refine CS.out.mono ?_; rintro e W ⟨rfl, hW⟩; rw [hW]; clear hW W))
  go_cut [10, 11] from 29 (fun a b wq => a = .int .i64 n ∧ b = .int .i64 er ∧ ∃ mb mc C, LyQ wq hb ob d mb mc S C n er (fun mv W => FP mv wq W))
  case first =>
    go_region_law (first | (rw [if_pos (by simp [Region.wanted])]; go_simp; go_at_call 26; refine CP.out.mono ?_; rintro e w2 ⟨rfl, hq⟩; have HQ := hide hq; clear hq))
    all_goals (go_wp2_with fail; go_meet; exact ⟨rfl, rfl, HQ.out⟩)
  case rest =>
    obtain ⟨rfl, rfl, mb, mc, C, hq⟩ := hcut
    have q1 := hq.c1
    obtain ⟨q9, f9⟩ := hq.c9
    have p0 := hq.o0
    have p4 := hq.o4
    obtain ⟨hm1, hm2⟩ := hq.mc
    unfold maxLen at hm2
    have ST := hide hq.st
    have HQ := hide hq
    have hN : ∀ w, Calls Tryz.prog 114 #[.int .i64 er] w fun e w' => e = .returned (.int .i64 er) ∧ w' = w := fun w => num_any er w
    have HNM := hide hN
    clear hq hN d0 d1 o0 o4 CS CP
    go_wp2_with (first
      | (go_at_call 114; refine (HNM.out _).mono ?_; rintro e W ⟨rfl, hW⟩; rw [hW]; clear hW W)
      | (go_at_call 41; refine ST.out.mono ?_; rintro e W ⟨rfl, hW⟩; rw [hW]; clear hW W))
    go_loopw [14, 15] (fun v j wr => (j = .int .i64 0 ∧ v = .slice none 0 0 ∧ wr = wc) ∨ (j = .int .i64 1 ∧ FP v wc wr ∧ Below wc.heap.size wc wr ∧ ∃ a c, v = .slice a 1 c)) (fun _ j _ => 1 - (intOf j).toNat)
    case atStart => exact Or.inl ⟨rfl, rfl, rfl⟩
    case round =>
      rcases hrel with ⟨rfl, rfl, hwr⟩ | ⟨rfl, hfp, hbl, va, vc, rfl⟩
      · rw [hwr]
        clear hwr
        have hszC : (Tryz.prog.info? 234).map (·.size) = some C.toList.length := by rw [Array.length_toList, HQ.out.sz]; exact Tryz.sizeLog
        have HRG := hide HQ.out.rg
        have HCP := hide HQ.out.cp
        go_upto_region 15 with fail
        go_upto_region 16 with (first
          | (refine wpList_load_mid rfl 234 (.tmp 70) rfl mb 0 rfl C.toList _ HRG.out Tryz.underlying234 rfl hszC ?_; rw [Array.toArray_toList])
          | (go_at_call 127; refine HCP.out.mono ?_; rintro e w3 ⟨cs, rfl, hc3⟩; have HC3 := hide hc3; have hsz3 : (Tryz.prog.info? 234).map (·.size) = some cs.size := (by rw [hc3.sz]; exact Tryz.sizeLog); have hz3 : zrC.size = cs.size := (by rw [hc3.sz]; rfl); have h13 := hc3.one; have hlz3 : (w3.alloc (Obj.cells zrC 234)).heap[w3.heap.size]? = some (Obj.cells zrC 234 (0, 0)) := heap_alloc_last _ _; clear hc3)
          | (refine wpList_store_row rfl 234 (.tmp 16) (.tmp 72) rfl w3.heap.size cs rfl rfl 234 zrC hlz3 hsz3 hz3 h13 ?_))
        have hsr := World.setRow_alloc_new w3 zrC cs 234
        unfold zrC at hsr
        rw [hsr]
        clear hsr hlz3
        have b4 := below_allocG w3 (Obj.cells cs 234)
        have e4 := new_blk w3 cs 234
        have s4 : (w3.alloc (Obj.cells cs 234)).heap.size = w3.heap.size + 1 := by simp
        generalize w3.alloc (Obj.cells cs 234) = W4 at *
        obtain ⟨m18, n18⟩ := cell_of e4 HC3.out.dn
        have hb3 := HC3.out.bel
        have hcs : cs.setIfInBounds 18 (.bool false) = cs := set_self HC3.out.dn
        have e5 := set_blk (j := 18) (v := .bool false) e4
        rw [hcs] at e5
        have b5 : Below w3.heap.size w3 (W4.setCell ⟨w3.heap.size, 18, none⟩ (.bool false)) := below_set b4 (Nat.le_refl _)
        have s5 : (W4.setCell ⟨w3.heap.size, 18, none⟩ (.bool false)).heap.size = w3.heap.size + 1 := by simpa using s4
        clear hcs e4 b4
        go_upto_region 19 with fail
        generalize W4.setCell ⟨w3.heap.size, 18, none⟩ (.bool false) = W5 at *
        have b6 := below_allocG W5 (Obj.cells #[.int .i64 0, .slice none 0 0] 228)
        have k6 := new_blk W5 #[.int .i64 0, .slice none 0 0] 228
        rw [s5] at k6
        go_upto_region 20 with fail
        generalize W5.alloc (Obj.cells #[.int .i64 0, .slice none 0 0] 228) = W6 at *
        have b36 : Below w3.heap.size w3 W6 := b5.trans (b6.mono b5.size)
        have e6 := (b6.block w3.heap.size (by omega)).trans e5
        have s6 := b6.size
        have bc6 : Below wc.heap.size wc W6 := hb3.trans (b36.mono hb3.size)
        have HAF := hide (HC3.out.af W6 b36 e6)
        have FK : Hid (∀ W7, Below W6.heap.size W6 W7 → W7.heap[w3.heap.size]? = some (Obj.cells cs 234 (0, 0)) ∧ W7.heap[w3.heap.size + 1]? = some (Obj.cells #[.int .i64 0, .slice none 0 0] 228 (0, 0)) ∧ Below w3.heap.size w3 W7) := fun W7 hb7 => by
          have hz := (Array.getElem?_eq_some_iff.1 k6).1
          exact ⟨(hb7.block _ (by omega)).trans e6, (hb7.block _ hz).trans k6, b36.trans (hb7.mono b36.size)⟩
        have FO : Hid (∀ W, Below w3.heap.size w3 W → W.cell? ⟨ob, 0, none⟩ = some (.int .i64 12) ∧ W.cell? ⟨ob, 4, none⟩ = some (.string S)) := fun W hW => by
          have hbw : Below wc.heap.size wc W := hb3.trans (hW.mono hb3.size)
          exact ⟨(hbw.cell (p := ⟨ob, 0, none⟩) (World.block_lt_of_cell? _ _ p0)).trans p0, (hbw.cell (p := ⟨ob, 4, none⟩) (World.block_lt_of_cell? _ _ p4)).trans p4⟩
        obtain ⟨u0, u4⟩ := FO.out W6 b36
        have FA : Hid (∀ W7 ck a l c, Below W6.heap.size W6 W7 → ∀ W8, W8 = (W7.setCell ⟨w3.heap.size + 1, 0, none⟩ (.int .i64 ck)).setCell ⟨w3.heap.size + 1, 1, none⟩ (.slice a l c) → (W8.cell? ⟨ob, 4, none⟩ = some (.string S)) ∧ Calls Tryz.prog 129 #[ptrV w3.heap.size, .string S] W8 fun e W' => e = .returned (.tuple #[.int .i64 n, .int .i64 er]) ∧ ∃ c9 : Array Value, c9.size = 20 ∧ c9.all (·.oneCell') = true ∧ W'.heap[w3.heap.size]? = some (Obj.cells c9 234 (0, 0)) ∧ Below wc.heap.size wc W' ∧ ∀ W10 mv, Below wc.heap.size wc W10 → Below W'.heap.size W' W10 → W10.ownsRow wc.heap.size 234 20 mv 1 c9.toList → FP mv wc W10) := fun W7 ck a l c hb7 W8 hW8 => by
          obtain ⟨x1, x2, x3⟩ := FK.out W7 hb7
          subst hW8
          have y3 : Below w3.heap.size w3 ((W7.setCell ⟨w3.heap.size + 1, 0, none⟩ (.int .i64 ck)).setCell ⟨w3.heap.size + 1, 1, none⟩ (.slice a l c)) := below_set (below_set x3 (by omega)) (by omega)
          refine ⟨(FO.out _ y3).2, HC3.out.ap _ y3 ?_⟩
          rw [set_other (by omega), set_other (by omega)]
          exact x1
        have HB3 := hide hb3
        clear e5 e6 b5 b6 k6 s4 s5 b36 m18 n18 bc6 hb3 HQ
        go_upto_region 22 with (first
          | (go_at_call 128; refine HAF.out.mono ?_; rintro e W7 ⟨ck, a7, l7, c7, rfl, hb7⟩; obtain ⟨_, x2, _⟩ := FK.out W7 hb7; obtain ⟨y0, y1⟩ := cell_of (j := 0) (u := .int .i64 0) x2 rfl; obtain ⟨y2, y3⟩ := cell_of (j := 1) (u := .slice none 0 0) x2 rfl; have HFA := hide (FA.out W7 ck a7 l7 c7 hb7); clear x2 hb7))
        obtain ⟨W8, hW8⟩ : ∃ W8, W8 = (W7.setCell ⟨w3.heap.size + 1, 0, none⟩ (.int .i64 ck)).setCell ⟨w3.heap.size + 1, 1, none⟩ (.slice a7 l7 c7) := ⟨_, rfl⟩
        obtain ⟨v4, hap⟩ := HFA.out W8 hW8
        rw [← hW8]
        have HAP := hide hap
        clear hap hW8 HFA FA HAF y0 y1 y2 y3 u0 u4
        go_upto_region 26 with (first
          | (go_at_call 129; refine HAP.out.mono ?_; rintro e W9 ⟨rfl, c9, z9, w9, e9, b9, hfp⟩; have HE9 := hide e9; have HB9 := hide b9; have HFP := hide hfp; have hs9 : (Tryz.prog.info? 234).map (·.size) = some c9.size := (by rw [z9]; exact Tryz.sizeLog); have HZ9 := hide z9; have HW9 := hide w9; clear e9 b9 hfp z9 w9))
        have hfold := fold_all (z := zrC) (c := c9) (by rw [HZ9.out]; rfl)
        unfold zrC at hfold
        have hz9 := HZ9.out
        rw [hz9] at hfold
        obtain ⟨bz, hbz⟩ : ∃ bz, (er == 0) = bz := ⟨_, rfl⟩
        have hwc : wc.heap.size ≤ W9.heap.size := HB9.out.size
        obtain ⟨l0, hl0, hl1, hl2, hl3⟩ := info_parts Tryz.infoLogR
        clear HAP v4 FK FO HC3
        go_wp2_with (first
          | (refine wpList_load_row rfl 234 (.tmp 16) rfl w3.heap.size rfl 234 c9 (0, 0) _ HE9.out Tryz.underlying234 rfl hs9 ?_)
          | (at_builtin; refine wpList_append_both _ rfl (.tmp 105) (.tmp 107) 153 rfl wc.heap.size 0 234 l0 (.agg zrC) 20 336 Tryz.underlying153 hl0 hl1 hl2 hl3 rfl (by decide) _ _ _ rfl (World.ownsRow_nil _ _ _ _) _ _ _ rfl (World.ownsRow_lit W9 c9 1 (Nat.zero_le _) (by decide) (by rw [HZ9.out])) (all_one HW9.out) (by unfold maxLen; omega) (by omega) (by simp; omega) ?_; intro v10 W10 o10 g10 n10; have o11 : W10.ownsRow wc.heap.size 234 20 v10 1 c9.toList := (by simpa using o10); have b10 : Below W9.heap.size W9 W10 := (below_allocG W9 _).trans ((below_grown0 g10).mono (by simp)); have HBT := hide (HB9.out.trans (b10.mono HB9.out.size)); have HFP2 := hide (HFP.out W10 v10 HBT.out b10 o11); obtain ⟨a10, c10, rfl, _, _⟩ := own_slice o11; clear o10 o11 g10 n10 b10))
        all_goals (
         go_roundw
         case rel => exact Or.inr ⟨by go_num, HFP2.out, HBT.out, _, _, rfl⟩
         case measure => simp [intOf])
      · have hfp2 := hide hfp
        have x9 := (hbl.cell (p := ⟨hb, 9, none⟩) (World.block_lt_of_cell? _ _ q9)).trans q9
        have y9 : wr.frozen? ⟨hb, 9, none⟩ = false := by rw [World.frozen?_of_block (w' := wr) (w := wc) (hbl.block hb (World.block_lt_of_cell? _ _ q9))]; exact f9
        clear hfp hbl q9 f9 HQ
        go_wp2_with fail
        go_ret
        exact ⟨rfl, _, wc, wr, hfp2.out, rfl⟩
end Go.Proofs.YtkncboinfcnklaaGreatDoor.Lw

namespace Go.Proofs.YtkncboinfcnklaaGreatDoor.Lw
open Go.RowKit Go.Deep Go.Shelf Go.Proofs.YtkncboinfcnklaaGreatDoor.Mth Go.Proofs.YtkncboinfcnklaaGreatDoor.Rl

/-! ### the walk of lays (Tick), apart from what it means -/
structure LtC (w2 w3 : World) (cs : Array Value) (bb er : Int) (FP : Value → World → Prop) : Prop where
  sz : cs.size = 20
  one : cs.all (·.oneCell') = true
  dn : cs[18]? = some (.bool false)
  bel : Below w2.heap.size w2 w3
  af : ∀ W, Below w3.heap.size w3 W → W.heap[w3.heap.size]? = some (Obj.cells cs 234 (0, 0)) → Calls Tryz.prog 130 #[ptrV w3.heap.size, .int .i64 bb] W fun e W' => ∃ ck a l c, e = .returned (.agg #[.int .i64 ck, .slice a l c]) ∧ Below W.heap.size W W'
  ap : ∀ W, Below w3.heap.size w3 W → W.heap[w3.heap.size]? = some (Obj.cells cs 234 (0, 0)) → Calls Tryz.prog 131 #[ptrV w3.heap.size, .int .i64 bb] W fun e W' => e = .returned (.int .i64 er) ∧ ∃ c9 : Array Value, c9.size = 20 ∧ c9.all (·.oneCell') = true ∧ W'.heap[w3.heap.size]? = some (Obj.cells c9 234 (0, 0)) ∧ Below w2.heap.size w2 W' ∧ ∀ W10 mv, Below w2.heap.size w2 W10 → Below W'.heap.size W' W10 → W10.ownsRow w2.heap.size 234 20 mv 1 c9.toList → FP mv W10
structure LtQ (w2 : World) (hb ob d mb mc : Nat) (bb : Int) (C : Array Value) (er : Int) (FP : Value → World → Prop) : Prop where
  c1 : w2.cell? ⟨hb, 1, none⟩ = some (ptrV d)
  c9 : w2.cell? ⟨hb, 9, none⟩ = some (.slice (some ⟨mb, 0, none⟩) 1 mc) ∧ w2.frozen? ⟨hb, 9, none⟩ = false
  o0 : w2.cell? ⟨ob, 0, none⟩ = some (.int .i64 13)
  o4 : w2.cell? ⟨ob, 2, none⟩ = some (.int .i64 bb)
  st : Calls Tryz.prog 41 #[ptrV d] w2 fun e w' => e = .returned (.bool false) ∧ w' = w2
  rg : w2.rangeAt mb 0 C.toList
  sz : C.size = 20
  mc : 1 ≤ mc ∧ mc ≤ maxLen
  cp : Calls Tryz.prog 127 #[.agg C] w2 fun e w3 => ∃ cs, e = .returned (.agg cs) ∧ LtC w2 w3 cs bb er FP

set_option maxRecDepth 100000 in
set_option maxHeartbeats 8000000 in
theorem ticks_walk {w W0 : World} {wb hb ob lb d : Nat} (A bb C' : Int) (S T : ByteArray) (er : Int) (FP : Value → World → World → Prop) (hW0 : W0 = w.alloc (Obj.cells #[.int .i64 13, .int .i64 A, .int .i64 bb, .int .i64 C', .string S, .string T] 94)) (hob : ob = w.heap.size)
    (d0 : W0.cell? ⟨hb, 0, none⟩ = some (ptrV lb)) (d1 : W0.cell? ⟨hb, 1, none⟩ = some (ptrV d)) (o0 : W0.cell? ⟨ob, 0, none⟩ = some (.int .i64 13)) (o4 : W0.cell? ⟨ob, 2, none⟩ = some (.int .i64 bb))
    (cs : Calls Tryz.prog 41 #[ptrV d] W0 fun e w' => e = .returned (.bool false) ∧ w' = W0)
    (cp : Calls Tryz.prog 126 #[ptrV lb, .int .i64 bb] W0.drew fun e w2 => e = .returned (.int .i64 er) ∧ ∃ mb mc C, LtQ w2 hb ob d mb mc bb C er (fun mv W => FP mv w2 W)) :
    Calls Tryz.prog 68 #[ptrV wb, ptrV hb, oV ⟨13, A, bb, C', S, T⟩] w fun e w' => e = .returned (.bool true) ∧ ∃ mv w2 W10, FP mv w2 W10 ∧ w' = W10.setCell ⟨hb, 9, none⟩ mv := by
  have CS := hide cs
  have CP := hide cp
  have HW := hide hW0
  have HOB := hide hob
  clear cs cp hW0 hob
  simp only [oV]
  go_enter Tryz.func68, Tryz.ntmps68
  go_upto_region 1 with fail
  rw [← HW.out, ← HOB.out]
  go_upto_region 8 with (first | (go_at_call 41; refine CS.out.mono ?_; rintro e W ⟨rfl, hW⟩; rw [hW]; clear hW W))
  go_cut [12] from 42 (fun a wq => a = .int .i64 er ∧ ∃ mb mc C, LtQ wq hb ob d mb mc bb C er (fun mv W => FP mv wq W))
  case first =>
    go_region_law (first | (rw [if_pos (by simp [Region.wanted])]; go_simp; go_at_call 126; refine CP.out.mono ?_; rintro e w2 ⟨rfl, hq⟩; have HQ := hide hq; clear hq))
    all_goals (go_wp2_with fail; go_meet; exact ⟨rfl, HQ.out⟩)
  case rest =>
    obtain ⟨rfl, mb, mc, C, hq⟩ := hcut
    have q1 := hq.c1
    obtain ⟨q9, f9⟩ := hq.c9
    have p0 := hq.o0
    have p4 := hq.o4
    obtain ⟨hm1, hm2⟩ := hq.mc
    unfold maxLen at hm2
    have ST := hide hq.st
    have HQ := hide hq
    have hN : ∀ w, Calls Tryz.prog 114 #[.int .i64 er] w fun e w' => e = .returned (.int .i64 er) ∧ w' = w := fun w => num_any er w
    have HNM := hide hN
    clear hq hN d0 d1 o0 o4 CS CP
    go_wp2_with (first
      | (go_at_call 114; refine (HNM.out _).mono ?_; rintro e W ⟨rfl, hW⟩; rw [hW]; clear hW W)
      | (go_at_call 41; refine ST.out.mono ?_; rintro e W ⟨rfl, hW⟩; rw [hW]; clear hW W))
    go_loopw [14, 15] (fun v j wr => (j = .int .i64 0 ∧ v = .slice none 0 0 ∧ wr = wc) ∨ (j = .int .i64 1 ∧ FP v wc wr ∧ Below wc.heap.size wc wr ∧ ∃ a c, v = .slice a 1 c)) (fun _ j _ => 1 - (intOf j).toNat)
    case atStart => exact Or.inl ⟨rfl, rfl, rfl⟩
    case round =>
      rcases hrel with ⟨rfl, rfl, hwr⟩ | ⟨rfl, hfp, hbl, va, vc, rfl⟩
      · rw [hwr]
        clear hwr
        have hszC : (Tryz.prog.info? 234).map (·.size) = some C.toList.length := by rw [Array.length_toList, HQ.out.sz]; exact Tryz.sizeLog
        have HRG := hide HQ.out.rg
        have HCP := hide HQ.out.cp
        go_upto_region 15 with fail
        go_upto_region 16 with (first
          | (refine wpList_load_mid rfl 234 (.tmp 70) rfl mb 0 rfl C.toList _ HRG.out Tryz.underlying234 rfl hszC ?_; rw [Array.toArray_toList])
          | (go_at_call 127; refine HCP.out.mono ?_; rintro e w3 ⟨cs, rfl, hc3⟩; have HC3 := hide hc3; have hsz3 : (Tryz.prog.info? 234).map (·.size) = some cs.size := (by rw [hc3.sz]; exact Tryz.sizeLog); have hz3 : zrC.size = cs.size := (by rw [hc3.sz]; rfl); have h13 := hc3.one; have hlz3 : (w3.alloc (Obj.cells zrC 234)).heap[w3.heap.size]? = some (Obj.cells zrC 234 (0, 0)) := heap_alloc_last _ _; clear hc3)
          | (refine wpList_store_row rfl 234 (.tmp 16) (.tmp 72) rfl w3.heap.size cs rfl rfl 234 zrC hlz3 hsz3 hz3 h13 ?_))
        have hsr := World.setRow_alloc_new w3 zrC cs 234
        unfold zrC at hsr
        rw [hsr]
        clear hsr hlz3
        have b4 := below_allocG w3 (Obj.cells cs 234)
        have e4 := new_blk w3 cs 234
        have s4 : (w3.alloc (Obj.cells cs 234)).heap.size = w3.heap.size + 1 := by simp
        generalize w3.alloc (Obj.cells cs 234) = W4 at *
        obtain ⟨m18, n18⟩ := cell_of e4 HC3.out.dn
        have hb3 := HC3.out.bel
        have hcs : cs.setIfInBounds 18 (.bool false) = cs := set_self HC3.out.dn
        have e5 := set_blk (j := 18) (v := .bool false) e4
        rw [hcs] at e5
        have b5 : Below w3.heap.size w3 (W4.setCell ⟨w3.heap.size, 18, none⟩ (.bool false)) := below_set b4 (Nat.le_refl _)
        have s5 : (W4.setCell ⟨w3.heap.size, 18, none⟩ (.bool false)).heap.size = w3.heap.size + 1 := by simpa using s4
        clear hcs e4 b4
        go_upto_region 19 with fail
        generalize W4.setCell ⟨w3.heap.size, 18, none⟩ (.bool false) = W5 at *
        have b6 := below_allocG W5 (Obj.cells #[.int .i64 0, .slice none 0 0] 228)
        have k6 := new_blk W5 #[.int .i64 0, .slice none 0 0] 228
        rw [s5] at k6
        go_upto_region 20 with fail
        generalize W5.alloc (Obj.cells #[.int .i64 0, .slice none 0 0] 228) = W6 at *
        have b36 : Below w3.heap.size w3 W6 := b5.trans (b6.mono b5.size)
        have e6 := (b6.block w3.heap.size (by omega)).trans e5
        have s6 := b6.size
        have bc6 : Below wc.heap.size wc W6 := hb3.trans (b36.mono hb3.size)
        have HAF := hide (HC3.out.af W6 b36 e6)
        have FK : Hid (∀ W7, Below W6.heap.size W6 W7 → W7.heap[w3.heap.size]? = some (Obj.cells cs 234 (0, 0)) ∧ W7.heap[w3.heap.size + 1]? = some (Obj.cells #[.int .i64 0, .slice none 0 0] 228 (0, 0)) ∧ Below w3.heap.size w3 W7) := fun W7 hb7 => by
          have hz := (Array.getElem?_eq_some_iff.1 k6).1
          exact ⟨(hb7.block _ (by omega)).trans e6, (hb7.block _ hz).trans k6, b36.trans (hb7.mono b36.size)⟩
        have FO : Hid (∀ W, Below w3.heap.size w3 W → W.cell? ⟨ob, 0, none⟩ = some (.int .i64 13) ∧ W.cell? ⟨ob, 2, none⟩ = some (.int .i64 bb)) := fun W hW => by
          have hbw : Below wc.heap.size wc W := hb3.trans (hW.mono hb3.size)
          exact ⟨(hbw.cell (p := ⟨ob, 0, none⟩) (World.block_lt_of_cell? _ _ p0)).trans p0, (hbw.cell (p := ⟨ob, 2, none⟩) (World.block_lt_of_cell? _ _ p4)).trans p4⟩
        obtain ⟨u0, u4⟩ := FO.out W6 b36
        have FA : Hid (∀ W7 ck a l c, Below W6.heap.size W6 W7 → ∀ W8, W8 = (W7.setCell ⟨w3.heap.size + 1, 0, none⟩ (.int .i64 ck)).setCell ⟨w3.heap.size + 1, 1, none⟩ (.slice a l c) → (W8.cell? ⟨ob, 2, none⟩ = some (.int .i64 bb)) ∧ Calls Tryz.prog 131 #[ptrV w3.heap.size, .int .i64 bb] W8 fun e W' => e = .returned (.int .i64 er) ∧ ∃ c9 : Array Value, c9.size = 20 ∧ c9.all (·.oneCell') = true ∧ W'.heap[w3.heap.size]? = some (Obj.cells c9 234 (0, 0)) ∧ Below wc.heap.size wc W' ∧ ∀ W10 mv, Below wc.heap.size wc W10 → Below W'.heap.size W' W10 → W10.ownsRow wc.heap.size 234 20 mv 1 c9.toList → FP mv wc W10) := fun W7 ck a l c hb7 W8 hW8 => by
          obtain ⟨x1, x2, x3⟩ := FK.out W7 hb7
          subst hW8
          have y3 : Below w3.heap.size w3 ((W7.setCell ⟨w3.heap.size + 1, 0, none⟩ (.int .i64 ck)).setCell ⟨w3.heap.size + 1, 1, none⟩ (.slice a l c)) := below_set (below_set x3 (by omega)) (by omega)
          refine ⟨(FO.out _ y3).2, HC3.out.ap _ y3 ?_⟩
          rw [set_other (by omega), set_other (by omega)]
          exact x1
        have HB3 := hide hb3
        clear e5 e6 b5 b6 k6 s4 s5 b36 m18 n18 bc6 hb3 HQ
        go_upto_region 24 with (first
          | (go_at_call 130; refine HAF.out.mono ?_; rintro e W7 ⟨ck, a7, l7, c7, rfl, hb7⟩; obtain ⟨_, x2, _⟩ := FK.out W7 hb7; obtain ⟨y0, y1⟩ := cell_of (j := 0) (u := .int .i64 0) x2 rfl; obtain ⟨y2, y3⟩ := cell_of (j := 1) (u := .slice none 0 0) x2 rfl; have HFA := hide (FA.out W7 ck a7 l7 c7 hb7); clear x2 hb7))
        obtain ⟨W8, hW8⟩ : ∃ W8, W8 = (W7.setCell ⟨w3.heap.size + 1, 0, none⟩ (.int .i64 ck)).setCell ⟨w3.heap.size + 1, 1, none⟩ (.slice a7 l7 c7) := ⟨_, rfl⟩
        obtain ⟨v4, hap⟩ := HFA.out W8 hW8
        rw [← hW8]
        have HAP := hide hap
        clear hap hW8 HFA FA HAF y0 y1 y2 y3 u0 u4
        go_upto_region 26 with (first
          | (go_at_call 131; refine HAP.out.mono ?_; rintro e W9 ⟨rfl, c9, z9, w9, e9, b9, hfp⟩; have HE9 := hide e9; have HB9 := hide b9; have HFP := hide hfp; have hs9 : (Tryz.prog.info? 234).map (·.size) = some c9.size := (by rw [z9]; exact Tryz.sizeLog); have HZ9 := hide z9; have HW9 := hide w9; clear e9 b9 hfp z9 w9))
        have hfold := fold_all (z := zrC) (c := c9) (by rw [HZ9.out]; rfl)
        unfold zrC at hfold
        have hz9 := HZ9.out
        rw [hz9] at hfold
        obtain ⟨bz, hbz⟩ : ∃ bz, (er == 0) = bz := ⟨_, rfl⟩
        have hwc : wc.heap.size ≤ W9.heap.size := HB9.out.size
        obtain ⟨l0, hl0, hl1, hl2, hl3⟩ := info_parts Tryz.infoLogR
        clear HAP v4 FK FO HC3
        go_wp2_with (first
          | (refine wpList_load_row rfl 234 (.tmp 16) rfl w3.heap.size rfl 234 c9 (0, 0) _ HE9.out Tryz.underlying234 rfl hs9 ?_)
          | (at_builtin; refine wpList_append_both _ rfl (.tmp 105) (.tmp 107) 153 rfl wc.heap.size 0 234 l0 (.agg zrC) 20 336 Tryz.underlying153 hl0 hl1 hl2 hl3 rfl (by decide) _ _ _ rfl (World.ownsRow_nil _ _ _ _) _ _ _ rfl (World.ownsRow_lit W9 c9 1 (Nat.zero_le _) (by decide) (by rw [HZ9.out])) (all_one HW9.out) (by unfold maxLen; omega) (by omega) (by simp; omega) ?_; intro v10 W10 o10 g10 n10; have o11 : W10.ownsRow wc.heap.size 234 20 v10 1 c9.toList := (by simpa using o10); have b10 : Below W9.heap.size W9 W10 := (below_allocG W9 _).trans ((below_grown0 g10).mono (by simp)); have HBT := hide (HB9.out.trans (b10.mono HB9.out.size)); have HFP2 := hide (HFP.out W10 v10 HBT.out b10 o11); obtain ⟨a10, c10, rfl, _, _⟩ := own_slice o11; clear o10 o11 g10 n10 b10))
        all_goals (
         go_roundw
         case rel => exact Or.inr ⟨by go_num, HFP2.out, HBT.out, _, _, rfl⟩
         case measure => simp [intOf])
      · have hfp2 := hide hfp
        have x9 := (hbl.cell (p := ⟨hb, 9, none⟩) (World.block_lt_of_cell? _ _ q9)).trans q9
        have y9 : wr.frozen? ⟨hb, 9, none⟩ = false := by rw [World.frozen?_of_block (w' := wr) (w := wc) (hbl.block hb (World.block_lt_of_cell? _ _ q9))]; exact f9
        clear hfp hbl q9 f9 HQ
        go_wp2_with fail
        go_ret
        exact ⟨rfl, _, wc, wr, hfp2.out, rfl⟩
end Go.Proofs.YtkncboinfcnklaaGreatDoor.Lw

namespace Go.Proofs.YtkncboinfcnklaaGreatDoor.Lw
open Go.RowKit Go.Deep Go.Shelf Go.Proofs.YtkncboinfcnklaaGreatDoor.Mth Go.Proofs.YtkncboinfcnklaaGreatDoor.Rl

theorem rg_of {w : World} {mv : Value} {C : Array Value} (h : w.ownsRow 0 234 20 mv 1 C.toList) : ∃ mb mc, mv = .slice (some ⟨mb, 0, none⟩) 1 mc ∧ (1 ≤ mc ∧ mc ≤ maxLen) ∧ w.rangeAt mb 0 C.toList := by
  obtain ⟨a, c, rfl, h1, h2⟩ := own_slice h
  obtain ⟨g, rfl⟩ := own_some h (by omega)
  refine ⟨g, c, rfl, ⟨h1, h2⟩, fun j v hv => ?_⟩
  have := own_get h hv
  simpa using this

theorem ly_of {Z : Nat → Prop} {w2 : World} {hb ob d : Nat} {mv : Value} {V : Rv} {L L' : Lg} {all al : List Ent} {ts : List Tl} {S : ByteArray} {n er : Int} (c1 : w2.cell? ⟨hb, 1, none⟩ = some (ptrV d)) (c9 : w2.cell? ⟨hb, 9, none⟩ = some mv ∧ w2.frozen? ⟨hb, 9, none⟩ = false) (o0 : w2.cell? ⟨ob, 0, none⟩ = some (.int .i64 12)) (o4 : w2.cell? ⟨ob, 4, none⟩ = some (.string S))
    (st : Calls Tryz.prog 41 #[ptrV d] w2 fun e w' => e = .returned (.bool false) ∧ w' = w2) (may : w2.ownsRow 0 234 20 mv 1 (rfC V L).toList) (ref : RfV Z 0 w2 V L all ts) (hZ : ∀ g, Z g → g < w2.heap.size) (hI : Inv L all) (hM : all.length ≤ 1000000) (hw4 : L.wks.length ≤ 4) (hwl : ∀ q, q < L.wks.length → (L.wks.getD q wk0).list.length ≤ 900) (hts : ts.length ≤ 1000)
    (hcr : ∀ W cb V', W.heap[cb]? = some (Obj.cells (rfC V' L) 234 (0, 0)) → RfV (fun g => Z g ∨ w2.heap.size ≤ g) w2.heap.size W V' L all ts → RfD w2.heap.size V' L → w2.heap.size ≤ W.heap.size → w2.heap.size ≤ cb → Calls Tryz.prog 129 #[ptrV cb, .string S] W fun e W' => e = .returned (.tuple #[.int .i64 n, .int .i64 er]) ∧ Below w2.heap.size W W' ∧ ∃ V2, W'.heap[cb]? = some (Obj.cells (rfC V2 L') 234 (0, 0)) ∧ RfV (fun g => Z g ∨ w2.heap.size ≤ g) w2.heap.size W' V2 L' al ts) :
    ∃ mb mc C, LyQ w2 hb ob d mb mc S C n er (fun mv W => ∃ V2, RfT Z w2 W L' al ts mv V2) := by
  obtain ⟨mb, mc, rfl, hmc, hrg⟩ := rg_of may
  have hlv := hI.lev
  have hml := hI.stoLen
  refine ⟨mb, mc, rfC V L, c1, c9, o0, o4, st, hrg, rfl, hmc, (copy_any ref hZ (by omega) (by omega) (fun i hi => by have := hlv i hi; omega) hw4 (fun q hq => by have := hwl q hq; omega) hts).mono ?_⟩
  rintro e w3 ⟨V', rfl, hr3, hd3, hb3⟩
  refine ⟨_, rfl, rfl, hr3.one, rfl, hb3, fun W hW hbk => ?_, fun W hW hbk => ?_⟩
  · refine (after_any hbk (own_belowR hr3.all hW) S (by omega)).mono ?_
    rintro e W' ⟨av', rfl, o', b'⟩
    obtain ⟨a, c, rfl, _, _⟩ := own_slice o'
    exact ⟨_, _, _, _, rfl, b'⟩
  · have hsz := hb3.size
    refine (hcr W _ V' hbk (hr3.below hW) hd3 (Nat.le_trans hsz hW.size) hsz).mono ?_
    rintro e W' ⟨rfl, hbW, V2, hb2, hr2⟩
    refine ⟨rfl, _, rfl, hr2.one, hb2, hb3.trans ((hW.mono hsz).trans hbW), fun W10 mv h1 h2 h3 => ⟨V2, h1, h3, hr2.below h2⟩⟩

theorem lt_of {Z : Nat → Prop} {w2 : World} {hb ob d : Nat} {mv : Value} {V : Rv} {L L' : Lg} {all al : List Ent} {ts : List Tl} {bb er : Int} (c1 : w2.cell? ⟨hb, 1, none⟩ = some (ptrV d)) (c9 : w2.cell? ⟨hb, 9, none⟩ = some mv ∧ w2.frozen? ⟨hb, 9, none⟩ = false) (o0 : w2.cell? ⟨ob, 0, none⟩ = some (.int .i64 13)) (o4 : w2.cell? ⟨ob, 2, none⟩ = some (.int .i64 bb))
    (st : Calls Tryz.prog 41 #[ptrV d] w2 fun e w' => e = .returned (.bool false) ∧ w' = w2) (may : w2.ownsRow 0 234 20 mv 1 (rfC V L).toList) (ref : RfV Z 0 w2 V L all ts) (hZ : ∀ g, Z g → g < w2.heap.size) (hI : Inv L all) (hM : all.length ≤ 1000000) (hw4 : L.wks.length ≤ 4) (hwl : ∀ q, q < L.wks.length → (L.wks.getD q wk0).list.length ≤ 900) (hts : ts.length ≤ 1000)
    (hcr : ∀ W cb V', W.heap[cb]? = some (Obj.cells (rfC V' L) 234 (0, 0)) → RfV (fun g => Z g ∨ w2.heap.size ≤ g) w2.heap.size W V' L all ts → RfD w2.heap.size V' L → w2.heap.size ≤ W.heap.size → w2.heap.size ≤ cb → Calls Tryz.prog 131 #[ptrV cb, .int .i64 bb] W fun e W' => e = .returned (.int .i64 er) ∧ Below w2.heap.size W W' ∧ ∃ V2, W'.heap[cb]? = some (Obj.cells (rfC V2 L') 234 (0, 0)) ∧ RfV (fun g => Z g ∨ w2.heap.size ≤ g) w2.heap.size W' V2 L' al ts) :
    ∃ mb mc C, LtQ w2 hb ob d mb mc bb C er (fun mv W => ∃ V2, RfT Z w2 W L' al ts mv V2) := by
  obtain ⟨mb, mc, rfl, hmc, hrg⟩ := rg_of may
  have hlv := hI.lev
  have hml := hI.stoLen
  refine ⟨mb, mc, rfC V L, c1, c9, o0, o4, st, hrg, rfl, hmc, (copy_any ref hZ (by omega) (by omega) (fun i hi => by have := hlv i hi; omega) hw4 (fun q hq => by have := hwl q hq; omega) hts).mono ?_⟩
  rintro e w3 ⟨V', rfl, hr3, hd3, hb3⟩
  refine ⟨_, rfl, rfl, hr3.one, rfl, hb3, fun W hW hbk => ?_, fun W hW hbk => ?_⟩
  · refine (later_any hbk (own_belowR hr3.all hW) bb (by omega) hI.clk).mono ?_
    rintro e W' ⟨c', av', rfl, _, o', b'⟩
    obtain ⟨a, c, rfl, _, _⟩ := own_slice o'
    exact ⟨_, _, _, _, rfl, b'⟩
  · have hsz := hb3.size
    refine (hcr W _ V' hbk (hr3.below hW) hd3 (Nat.le_trans hsz hW.size) hsz).mono ?_
    rintro e W' ⟨rfl, hbW, V2, hb2, hr2⟩
    refine ⟨rfl, _, rfl, hr2.one, hb2, hb3.trans ((hW.mono hsz).trans hbW), fun W10 mv h1 h2 h3 => ⟨V2, h1, h3, hr2.below h2⟩⟩
end Go.Proofs.YtkncboinfcnklaaGreatDoor.Lw
