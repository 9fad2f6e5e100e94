import Derived.Test.YtkncboinfcnklaaGreatDoorWb
import Derived.Test.YtkncboinfcnklaaGreatDoorRa
import Derived.Test.YtkncboinfcnklaaGreatDoorL7
import Derived.Test.YtkncboinfcnklaaGreatDoorL4
import Derived.Test.YtkncboinfcnklaaGreatDoorL10
namespace Go.Proofs.YtkncboinfcnklaaGreatDoor.WI
open Go.RowKit Go.Deep Go.Proofs.YtkncboinfcnklaaGreatDoor.Mth

abbrev ltI : Int → Int → Prop := fun a b => a < b
/-- A number put into a list. -/
def putI (x : Int) (l : List Int) : List Int := if memD x l then l else ins ltI x l

theorem putI_len (x : Int) (l : List Int) : (putI x l).length ≤ l.length + 1 := by
  unfold putI
  split
  · omega
  · rw [ins_len]; omega
theorem putI_mem (x : Int) (l : List Int) (z : Int) : z ∈ putI x l ↔ z = x ∨ z ∈ l := by
  unfold putI
  split
  · rename_i h
    have := memD_iff.1 h
    constructor
    · exact Or.inr
    · rintro (rfl | h) <;> assumption
  · exact ins_mem x l z
theorem putI_up (x : Int) (l : List Int) (h : l.Pairwise ltI) : (putI x l).Pairwise ltI := by
  unfold putI
  split
  · exact h
  · rename_i c
    exact ins_up sordInt x l h (fun q => c (memD_true q))

theorem rd_at {w : World} {a : Option Addr} {n c : Nat} {l : List Int} (h : Rd w (.slice a n c) l) (j : Nat) (hj : j < l.length) : ∃ b o, a = some ⟨b, o, none⟩ ∧ b < w.heap.size ∧ w.cell? ⟨b, o + j, none⟩ = some (.int .i64 (l.getD j 0)) := by
  obtain ⟨a', c', e, hc, hm, hz, h⟩ := h
  injection e with e1 e2 e3
  rcases h with h | ⟨b, o, e4, h⟩
  · subst h; simp at hj
  · exact ⟨b, o, e1.trans e4, World.block_lt_of_cell? _ _ (h j hj), h j hj⟩

set_option maxRecDepth 100000 in
set_option maxHeartbeats 4000000 in
theorem putInt_core (a : Option Addr) (c : Nat) (l : List Int) (x : Int) (w : World) (h : Rd w (.slice a l.length c) l) (hl : l.length ≤ 4194304) :
    Calls Tryz.prog 172 #[.slice a l.length c, .int .i64 x] w fun e w' => ∃ v', e = .returned (.tuple #[v', .bool (!memD x l)]) ∧ Below w.heap.size w w' ∧ Rd w' v' (putI x l) := by
  have HR := hide h
  obtain ⟨i0, hi0, hz0, hz1, hz2⟩ := info_parts Tryz.info3
  have hcm : l.length ≤ c ∧ c ≤ maxLen := by obtain ⟨a', c', e, q1, q2, _⟩ := h; injection e with _ _ e; subst e; exact ⟨q1, q2⟩
  obtain ⟨hc, hm⟩ := hcm
  unfold maxLen at hm
  clear h
  generalize hn : l.length = n at *
  have HN := hide hn
  clear hn
  go_enter Tryz.func172, Tryz.ntmps172
  go_wp2_with fail
  go_loopw [6, 7, 8] (fun o d i wr => ∃ (k : Nat) (dn : Bool) (m : List Int), k ≤ n ∧ i = .int .i64 k ∧ d = .bool dn ∧ Cur w wr o m ∧ m.length ≤ k + dn.toNat ∧ insTo ltI x dn m (l.drop k) = ins ltI x l ∧ ¬ x ∈ l.take k) (fun _ _ i _ => n - (intOf i).toNat)
  case atStart => exact ⟨0, false, [], Nat.zero_le _, rfl, rfl, ⟨Below.refl _ _, World.ownsRow_nil _ _ _ _⟩, by simp, by simp [insTo], by simp⟩
  case round =>
    obtain ⟨k, dn, m, hk, rfl, rfl, hcur, hml, hins, hnot⟩ := hrel
    have HC := hide hcur
    have HI := hide hins
    have HX := hide hnot
    have hsz := hcur.1.size
    clear hcur hins hnot
    by_cases hlt : k < n
    · obtain ⟨b, o, rfl, hblt, hcell⟩ := rd_at HR.out k (by rw [HN.out]; exact hlt)
      have hcell' := (HC.out.1.cell (p := ⟨b, o + k, none⟩) hblt).trans hcell
      have hdr := hide (drop_get (l := l) (k := k) (by rw [HN.out]; exact hlt) 0)
      have htk : Hid (l.take (k + 1) = l.take k ++ [l.getD k 0]) := by
        show _ = _
        rw [List.take_succ_eq_append_getElem (by rw [HN.out]; exact hlt)]
        simp [List.getD, show k < l.length by rw [HN.out]; exact hlt]
      have hmem : Hid (l.getD k 0 ∈ l) := by
        show _ ∈ _
        rw [List.getD, List.getElem?_eq_getElem (by rw [HN.out]; exact hlt)]
        exact List.getElem_mem _
      generalize l.getD k 0 = y at *
      clear hcell
      by_cases hy : y = x
      · subst hy
        go_wp2
        go_ret2
        refine ⟨_, by rw [memD_true hmem.out]; rfl, HC.out.1, ?_⟩
        unfold putI
        rw [if_pos (memD_true hmem.out)]
        exact HR.out.below HC.out.1
      · have q1 : (y == x) = false := by simpa using hy
        have hnx : Hid (¬ x ∈ l.take (k + 1)) := by
          show ¬ _
          rw [htk.out]
          simp only [List.mem_append, List.mem_singleton]
          rintro (q | q)
          · exact HX.out q
          · exact hy q.symm
        have HY := hide hy
        clear hy
        cases dn with
        | true =>
          simp only [Bool.toNat_true] at hml
          go_wp2_with (at_builtin; refine wpList_append_own _ rfl (.tmp 36) (.tmp 41) 149 rfl w.heap.size 3 i0 (.int .i64 0) 1 8 Tryz.underlying149 hi0 hz0 hz1 hz2 rfl (by decide) _ _ _ rfl (HC.out.2.alloc _) ⟨wr.heap.size, 0, none⟩ 1 1 [.int .i64 y] rfl rfl (cell_one_new _ _ _) (by intro u hu; simp at hu; subst hu; rfl) (by unfold maxLen; omega) (by omega) (by simp; omega) ?_; intro v3 w3 hown3 hgrow3 _; have HC3 := hide (cur_append HC.out hown3 hgrow3); clear hown3 hgrow3)
          go_roundw
          case rel => exact ⟨k + 1, true, m ++ [y], by omega, by go_num, rfl, HC3.out, by rw [List.length_append, List.length_singleton, Bool.toNat_true]; omega, by rw [← HI.out, hdr.out, insTo_done], hnx.out⟩
          case measure => simp [intOf]; omega
        | false =>
          simp only [Bool.toNat_false] at hml
          by_cases hxy : ltI x y
          · have q2 : x < y := hxy
            have HXY := hide hxy
            clear hxy
            go_wp2_with (first
              | (at_builtin; refine wpList_append_own _ rfl (.tmp 32) (.tmp 34) 149 rfl w.heap.size 3 i0 (.int .i64 0) 1 8 Tryz.underlying149 hi0 hz0 hz1 hz2 rfl (by decide) _ _ _ rfl (HC.out.2.alloc _) ⟨wr.heap.size, 0, none⟩ 1 1 [.int .i64 x] rfl rfl (cell_one_new _ _ _) (by intro u hu; simp at hu; subst hu; rfl) (by unfold maxLen; omega) (by omega) (by simp; omega) ?_; intro v3 w3 hown3 hgrow3 _; have HC3 := hide (cur_append HC.out hown3 hgrow3); have hcell3 := (HC3.out.1.cell (p := ⟨b, o + k, none⟩) hblt).trans ((HC.out.1.cell (p := ⟨b, o + k, none⟩) hblt).symm.trans hcell'); have hsz3 := HC3.out.1.size; clear hown3 hgrow3)
              | (at_builtin; refine wpList_append_own _ rfl (.tmp 36) (.tmp 41) 149 rfl w.heap.size 3 i0 (.int .i64 0) 1 8 Tryz.underlying149 hi0 hz0 hz1 hz2 rfl (by decide) _ _ _ rfl (HC3.out.2.alloc _) ⟨w3.heap.size, 0, none⟩ 1 1 [.int .i64 y] rfl rfl (cell_one_new _ _ _) (by intro u hu; simp at hu; subst hu; rfl) (by unfold maxLen; simp only [List.length_append, List.length_singleton]; omega) (by simp only [List.length_append, List.length_singleton]; omega) (by simp; omega) ?_; intro v4 w4 hown4 hgrow4 _; have HC4 := hide (cur_append HC3.out hown4 hgrow4); clear hown4 hgrow4))
            go_roundw
            case rel => exact ⟨k + 1, true, m ++ [x] ++ [y], by omega, by go_num, rfl, HC4.out, by simp only [List.length_append, List.length_singleton, Bool.toNat_true]; omega, by rw [← HI.out, hdr.out, insTo_here HXY.out], hnx.out⟩
            case measure => simp [intOf]; omega
          · have q2 : ¬ x < y := hxy
            have q4 : y < x := by have := HY.out; omega
            have HXY := hide hxy
            clear hxy
            go_wp2_with (at_builtin; refine wpList_append_own _ rfl (.tmp 36) (.tmp 41) 149 rfl w.heap.size 3 i0 (.int .i64 0) 1 8 Tryz.underlying149 hi0 hz0 hz1 hz2 rfl (by decide) _ _ _ rfl (HC.out.2.alloc _) ⟨wr.heap.size, 0, none⟩ 1 1 [.int .i64 y] rfl rfl (cell_one_new _ _ _) (by intro u hu; simp at hu; subst hu; rfl) (by unfold maxLen; omega) (by omega) (by simp; omega) ?_; intro v3 w3 hown3 hgrow3 _; have HC3 := hide (cur_append HC.out hown3 hgrow3); clear hown3 hgrow3)
            go_roundw
            case rel => exact ⟨k + 1, false, m ++ [y], by omega, by go_num, rfl, HC3.out, by rw [List.length_append, List.length_singleton, Bool.toNat_false]; omega, by rw [← HI.out, hdr.out, insTo_on HXY.out], hnx.out⟩
            case measure => simp [intOf]; omega
    · have hke : k = n := by omega
      subst hke
      have hdr : l.drop k = [] := List.drop_eq_nil_of_le (by rw [HN.out]; exact Nat.le_refl _)
      have htk : l.take k = l := List.take_of_length_le (by rw [HN.out]; exact Nat.le_refl _)
      have hnx : Hid (¬ x ∈ l) := by have := HX.out; rwa [htk] at this
      have hput : Hid (putI x l = ins ltI x l) := by
        show _ = _
        unfold putI
        rw [if_neg (fun q => hnx.out (memD_iff.1 q))]
      have hend := HI.out
      rw [hdr] at hend
      have HE := hide hend
      clear hend hdr htk
      cases dn with
      | true =>
        simp only [Bool.toNat_true] at hml
        go_wp2
        go_ret2
        refine ⟨_, by rw [memD_false hnx.out]; rfl, HC.out.1, ?_⟩
        rw [hput.out, ← HE.out, (insTo_end x m).1]
        exact rd_own HC.out.2
      | false =>
        simp only [Bool.toNat_false] at hml
        go_wp2_with (at_builtin; refine wpList_append_own _ rfl (.tmp 45) (.tmp 47) 149 rfl w.heap.size 3 i0 (.int .i64 0) 1 8 Tryz.underlying149 hi0 hz0 hz1 hz2 rfl (by decide) _ _ _ rfl (HC.out.2.alloc _) ⟨wr.heap.size, 0, none⟩ 1 1 [.int .i64 x] rfl rfl (cell_one_new _ _ _) (by intro u hu; simp at hu; subst hu; rfl) (by unfold maxLen; omega) (by omega) (by simp; omega) ?_; intro v3 w3 hown3 hgrow3 _; have HC3 := hide (cur_append HC.out hown3 hgrow3); clear hown3 hgrow3)
        go_ret2
        refine ⟨_, by rw [memD_false hnx.out]; rfl, HC3.out.1, ?_⟩
        rw [hput.out, ← HE.out, (insTo_end x m).2]
        exact rd_own HC3.out.2

theorem putInt_any {v : Value} {l : List Int} (x : Int) {w : World} (h : Rd w v l) (hl : l.length ≤ 4194304) :
    Calls Tryz.prog 172 #[v, .int .i64 x] w fun e w' => ∃ v', e = .returned (.tuple #[v', .bool (!memD x l)]) ∧ Below w.heap.size w w' ∧ Rd w' v' (putI x l) := by
  obtain ⟨a, c, rfl, _, _⟩ := rd_len h
  exact putInt_core a c l x w h hl

set_option maxRecDepth 100000 in
set_option maxHeartbeats 1000000 in
theorem sameInts_any {v1 v2 : Value} {l : List Int} {w : World} (h1 : Rd w v1 l) (h2 : Rd w v2 l) :
    Calls Tryz.prog 175 #[v1, v2] w fun e w' => e = .returned (.bool true) ∧ Below w.heap.size w w' := by
  obtain ⟨a1, c1, rfl, hc1, hm1⟩ := rd_len h1
  obtain ⟨a2, c2, rfl, hc2, hm2⟩ := rd_len h2
  unfold maxLen at hm1 hm2
  have HA := hide h1
  have HB := hide h2
  clear h1 h2
  generalize hn : l.length = n at *
  have HN := hide hn
  clear hn
  go_enter Tryz.func175, Tryz.ntmps175
  go_wp2_with fail
  go_loopw [5] (fun i wr => ∃ k : Nat, k ≤ n ∧ i = .int .i64 k ∧ Below w.heap.size w wr) (fun i _ => n - (intOf i).toNat)
  case atStart => exact ⟨0, Nat.zero_le _, rfl, Below.refl _ _⟩
  case round =>
    obtain ⟨k, hk, rfl, hb⟩ := hrel
    by_cases hlt : k < n
    · obtain ⟨b1, o1, rfl, _, d1⟩ := rd_at (HA.out.below hb) k (by rw [HN.out]; exact hlt)
      obtain ⟨b2, o2, rfl, _, d2⟩ := rd_at (HB.out.below hb) k (by rw [HN.out]; exact hlt)
      generalize l.getD k 0 = x at *
      have d1' := cell_regrown d1
      have d2' := cell_regrown d2
      have HBB := hide hb
      clear hb d1 d2
      go_wp2
      refine wp_region_quiet_below (by kernel_rfl) (by kernel_rfl) ?_
      repeat (go_big_quiet_step (fail))
      refine wpQuiet_nil ?_
      intro _ hw'
      obtain ⟨⟨dq, osq⟩, hw''⟩ := hw'
      subst hw''
      have HB2 := hide (HBB.out.trans ((below_regrown wr dq osq).mono HBB.out.size))
      clear d1' d2'
      generalize Sort.grow (redrawn wr dq) osq = w2 at *
      go_wp2
      go_roundw
      case rel => exact ⟨k + 1, by omega, by go_num, HB2.out⟩
      case measure => simp [intOf]; omega
    · go_wp2
      go_ret
      exact ⟨rfl, hb⟩
end Go.Proofs.YtkncboinfcnklaaGreatDoor.WI

namespace Go.Proofs.YtkncboinfcnklaaGreatDoor
open Go.RowKit Go.Deep Go.Proofs.YtkncboinfcnklaaGreatDoor.Mth

theorem Tryz.infoInt : (Tryz.prog.info? 3).map (fun i => (i.zero, i.size, i.bytes)) = some (some (.int .i64 0), 1, 8) := by kernel_rfl
def fI (n : Nat) (_ : Nat) : Value := .int .i64 (-1000 - (n : Int))
/-- The blocks of a list that is kept, and of what it was appended to. -/
def KB (B0 : Nat) (v va vb vc : Value) : Prop := ∀ g, (some g = v.ownBlock ∨ some g = va.ownBlock ∨ some g = vb.ownBlock ∨ some g = vc.ownBlock) → B0 ≤ g
theorem Tryz.info163 : (Tryz.prog.info? 163).map (fun i => (i.zero, i.size, i.bytes)) = some (some (.agg #[.slice none 0 0, .slice none 0 0, .slice none 0 0, .slice none 0 0, .int .i64 0]), 5, 104) := by kernel_rfl

set_option maxRecDepth 100000 in
set_option maxHeartbeats 2000000 in
theorem keepInts_any (w : World) (B0 wb B : Nat) (v tv : Value) (n N : Nat) (ys xs : List Value) (C : Array Value) (hown : w.ownsRow B0 3 1 v n ys) (hwb : wb < B0) (hB0 : B0 ≤ w.heap.size) (hC : w.heap[wb]? = some (Obj.cells C 91 (0, 0))) (hCs : C.size = 15) (hct : C[10]? = some tv)
    (hrow : w.ownsRow B 163 5 tv N xs) (htv : ∀ g, some g = tv.ownBlock → g < B0) (hBB : B ≤ B0) (hn : n ≤ 4194304) (hN : N ≤ 4194304) :
    Calls Tryz.prog 176 #[.pointer (some ⟨wb, 9, none⟩), v] w fun e w' => e = .returned (.tuple #[]) ∧ ∃ tv' va vb vc, Kept w w' B0 wb 10 B 163 3 1 (fI N) tv tv' N xs C ⟨v, va, vb, vc⟩ n ∧ KB B0 v va vb vc := by
  obtain ⟨i0, hi0, hz0, hz1, hz2⟩ := info_parts Tryz.infoInt
  obtain ⟨j0, hj0, hy0, hy1, hy2⟩ := info_parts Tryz.info163
  have hyl := hown.1
  have HB9 := hide (fun g hg => (own_block (g := g) hown hg).1)
  have HOWN := hide hown
  have HC := hide hC
  have HROW := hide hrow
  have HTV := hide htv
  have c10 := (cell_of hC hct).1
  have hv : ∃ a c, v = .slice a n c ∧ n ≤ c ∧ c ≤ maxLen := by
    rcases hown.2 with ⟨rfl, rfl⟩ | ⟨g, cap, cur, rfl, _, _, h1, h2, _⟩
    · exact ⟨none, 0, rfl, Nat.le_refl _, by unfold maxLen; omega⟩
    · exact ⟨_, cap, rfl, h1, h2⟩
  have htvv : ∃ a c, tv = .slice a N c ∧ N ≤ c ∧ c ≤ maxLen := by
    rcases hrow.2 with ⟨rfl, rfl⟩ | ⟨g, cap, cur, rfl, _, _, h1, h2, _⟩
    · exact ⟨none, 0, rfl, Nat.le_refl _, by unfold maxLen; omega⟩
    · exact ⟨_, cap, rfl, h1, h2⟩
  obtain ⟨a, c, rfl, hnc, hcm⟩ := hv
  obtain ⟨ta, tc, rfl, hNc, hNm⟩ := htvv
  unfold maxLen at hcm hNm
  have HCT := hide hct
  have HCS := hide hCs
  clear hown hC hrow htv hct
  go_enter Tryz.func176, Tryz.ntmps176
  go_wp2_with fail
  have HB1 := hide (Below.refl w.heap.size w)
  have HOWN1 := hide (HOWN.out.kept (row := none) ⟨HB1.out.os, HB1.out.tape, HB1.out.output, HB1.out.size, fun k hk _ => HB1.out.block k hk⟩ (by cases (Value.slice a n c).ownBlock <;> simp))
  clear HOWN c10
  go_loopw [6] (fun i wr => ∃ k : Nat, k ≤ n ∧ i = .int .i64 k ∧ wr.ownsRow B0 3 1 (.slice a n c) n (mkTo (fI N) ys k) ∧ w.grownBy wr (Value.slice a n c).ownBlock) (fun i _ => n - (intOf i).toNat)
  case atStart => exact ⟨0, Nat.zero_le _, rfl, by simpa [mkTo, mks] using HOWN1.out, ⟨rfl, rfl, rfl, Nat.le_refl _, fun _ _ _ => rfl⟩⟩
  case round =>
    obtain ⟨k, hk, rfl, ho, hg⟩ := hrel
    have HO := hide ho
    have HG := hide hg
    clear ho hg
    by_cases hlt : k < n
    · have hsome : ∃ g, a = some ⟨g, 0, none⟩ := by
        rcases HO.out.2 with ⟨q, q2⟩ | ⟨g, cap, cur, q, _⟩
        · omega
        · injection q with q; exact ⟨g, q⟩
      obtain ⟨g, rfl⟩ := hsome
      obtain ⟨⟨y, hcell⟩, hfr⟩ := own_at HO.out (i := k) (by omega)
      go_wp2
      go_roundw
      case rel =>
        refine ⟨k + 1, by omega, by go_num, ?_, ⟨HG.out.os, HG.out.tape, HG.out.output, by have := HG.out.size; simpa using this, fun q hq hne => ?_⟩⟩
        · have := own_store (y := .int .i64 (-1000 - (N : Int))) HO.out (i := k) (by omega)
          rwa [show (mkTo (fI N) ys k).set k (.int .i64 (-1000 - (N : Int))) = mkTo (fI N) ys (k + 1) from mkTo_set (f := fI N) (by rw [hyl]; omega)] at this
        · rw [set_other (fun e => hne (by simp [Value.ownBlock, e]))]
          exact HG.out.block q hq hne
      case measure => simp [intOf]; omega
    · have hke : k = n := by omega
      subst hke
      have HO2 : Hid (wr.ownsRow B0 3 1 (.slice a k c) k (mks (fI N) (k * 1))) := by
        have := HO.out
        rw [mkTo_full (by rw [hyl]; omega)] at this
        rwa [Nat.mul_one]
      have HSAME : Hid (∀ g : Nat, g < B0 → wr.heap[g]? = w.heap[g]?) := by
        intro g hg
        exact HG.out.block g (by omega) (fun q => by have := (own_block HOWN1.out q).1; omega)
      have hsz : w.heap.size ≤ wr.heap.size := Nat.le_trans HB1.out.size HG.out.size
      have K0 : Hid (KSt w (wr.alloc (Obj.cells #[.slice a k c, .slice none 0 0, .slice none 0 0, .slice none 0 0, .int .i64 (N : Int)] 163)) B0 wr.heap.size 163 3 1 (.slice a k c) k (fI N) #[.slice a k c, .slice none 0 0, .slice none 0 0, .slice none 0 0, .int .i64 (N : Int)] []) := by
        refine ⟨HO2.out.alloc _, ?_, by omega, fun g hg => ?_, HG.out.os.trans HB1.out.os, HG.out.tape.trans HB1.out.tape, HG.out.output.trans HB1.out.output, by simp; omega, fun p hp => by cases hp⟩
        · show (wr.heap.push _)[wr.heap.size]? = _
          rw [Array.getElem?_push, if_pos rfl]
        · rw [_root_.Go.heap_alloc_old wr _ (r := g) (by omega)]
          exact HSAME.out g hg
      clear HO HG HOWN1 HB1
      go_wp2_with (first
        | (at_builtin; refine wpList_append_keep _ rfl (.tmp 28) (.tmp 30) 149 rfl B0 3 i0 (.int .i64 0) 1 8 Tryz.underlying149 hi0 hz0 hz1 hz2 rfl (by decide) _ _ _ rfl (K0.out.own.alloc _) ⟨_, 0, none⟩ 1 1 [.int .i64 (-1000 - (N : Int))] rfl rfl (cells_new2 _ _ (by simp) _ _ _ rfl) (by intro u hu; simp at hu; subst hu; rfl) (by unfold maxLen; omega) (by omega) (by have := K0.out.size; simp at this ⊢; omega) (by omega) ?_; intro v1 W1 o1 g1 k1 r1; obtain ⟨a1, c1, rfl, _, _⟩ := own_slice o1; have HB91 := hide (fun g hg => (own_block (g := g) o1 hg).1); have K1 := hide (KSt.app (i := 1) (m := 1) K0.out (by decide) (by exact o1) g1 k1 r1 (by simp)); obtain ⟨hx1, hf1⟩ := cell_of (j := 1) (u := .slice none 0 0) (KSt.x2 K0.out (by decide) g1) rfl; clear o1 g1 k1 r1)
        | (at_builtin; refine wpList_append_keep _ rfl (.tmp 33) (.tmp 36) 149 rfl B0 3 i0 (.int .i64 0) 1 8 Tryz.underlying149 hi0 hz0 hz1 hz2 rfl (by decide) _ _ _ rfl (K1.out.own.alloc _) ⟨_, 0, none⟩ 2 2 [.int .i64 (-1000 - (N : Int)), .int .i64 (-1000 - (N : Int))] rfl rfl (cells_new2 _ _ (by simp) _ _ _ rfl) (by intro u hu; simp at hu; subst hu; rfl) (by unfold maxLen; omega) (by omega) (by have := K1.out.size; simp at this ⊢; omega) (by omega) ?_; intro v2 W2 o2 g2 k2 r2; obtain ⟨a2, c2, rfl, _, _⟩ := own_slice o2; have HB92 := hide (fun g hg => (own_block (g := g) o2 hg).1); have K2 := hide (KSt.app (i := 2) (m := 2) K1.out (by decide) (by exact o2) g2 k2 r2 (by simp)); obtain ⟨hx2, hf2⟩ := cell_of (j := 2) (u := .slice none 0 0) (KSt.x2 K1.out (by decide) g2) rfl; clear o2 g2 k2 r2)
        | (at_builtin; refine wpList_append_keep _ rfl (.tmp 39) (.tmp 43) 149 rfl B0 3 i0 (.int .i64 0) 1 8 Tryz.underlying149 hi0 hz0 hz1 hz2 rfl (by decide) _ _ _ rfl (K2.out.own.alloc _) ⟨_, 0, none⟩ 3 3 [.int .i64 (-1000 - (N : Int)), .int .i64 (-1000 - (N : Int)), .int .i64 (-1000 - (N : Int))] rfl rfl (cells_new2 _ _ (by simp) _ _ _ rfl) (by intro u hu; simp at hu; subst hu; rfl) (by unfold maxLen; omega) (by omega) (by have := K2.out.size; simp at this ⊢; omega) (by omega) ?_; intro v3 W3 o3 g3 k3 r3; obtain ⟨a3, c3, rfl, _, _⟩ := own_slice o3; have HB93 := hide (fun g hg => (own_block (g := g) o3 hg).1); have K3 := hide (KSt.app (i := 3) (m := 3) K2.out (by decide) (by exact o3) g3 k3 r3 (by simp)); obtain ⟨hx3, hf3⟩ := cell_of (j := 3) (u := .slice none 0 0) (KSt.x2 K2.out (by decide) g3) rfl; clear o3 g3 k3 r3))
      clear hx1 hf1 hx2 hf2 hx3 hf3 K0 K1 K2 HO2
      have HXX := hide K3.out.x
      have hge := K3.out.ge
      have hWsz := K3.out.size
      obtain ⟨e0, _⟩ := cell_of (j := 0) (u := .slice a k c) K3.out.x rfl
      obtain ⟨e1, _⟩ := cell_of (j := 1) (u := .slice a1 (k + 1) c1) K3.out.x rfl
      obtain ⟨e2, _⟩ := cell_of (j := 2) (u := .slice a2 (k + 2) c2) K3.out.x rfl
      obtain ⟨e3, _⟩ := cell_of (j := 3) (u := .slice a3 (k + 3) c3) K3.out.x rfl
      obtain ⟨e4, _⟩ := cell_of (j := 4) (u := .int .i64 (N : Int)) K3.out.x rfl
      have HWB := hide ((K3.out.same wb hwb).trans HC.out)
      obtain ⟨ew, ef⟩ := cell_of (j := 10) (u := .slice ta N tc) HWB.out HCT.out
      have HRW := hide (own_same HROW.out (fun g hg => K3.out.same g (HTV.out g hg)))
      have hnx : Hid (some wr.heap.size ≠ (Value.slice ta N tc).ownBlock) := fun q => by have := HTV.out _ q; omega
      have hnw : Hid (some wb ≠ (Value.slice ta N tc).ownBlock) := fun q => by
        obtain ⟨_, _, D, hD⟩ := own_block HROW.out q
        rw [HC.out] at hD
        injection hD with hD
        injection hD with _ hD _
        exact absurd hD (by decide)
      generalize W3.setCell ⟨wr.heap.size, 3, none⟩ (.slice a3 (k + 3) c3) = W at *
      generalize wr.heap.size = xb at *
      have ew2 : (W.alloc (Obj.cells #[.slice a k c, .slice a1 (k + 1) c1, .slice a2 (k + 2) c2, .slice a3 (k + 3) c3, .int .i64 (N : Int)] 163)).cell? ⟨wb, 10, none⟩ = some (.slice ta N tc) := ((below_alloc W _).cell (p := ⟨wb, 10, none⟩) (World.block_lt_of_cell? _ _ ew)).trans ew
      go_region_law (refine step_own _ rfl _ _ 83 rfl B 163 j0 (.agg #[.slice none 0 0, .slice none 0 0, .slice none 0 0, .slice none 0 0, .int .i64 0]) 5 104 Tryz.underlying83 hj0 hy0 hy1 hy2 rfl (by decide) _ _ _ rfl (by exact HRW.out.alloc _) ⟨W.heap.size, 0, none⟩ 1 1 [.slice a k c, .slice a1 (k + 1) c1, .slice a2 (k + 2) c2, .slice a3 (k + 3) c3, .int .i64 (N : Int)] rfl rfl (by exact cells_new _ _ _ _ rfl) (by intro u hu; simp at hu; rcases hu with rfl | rfl | rfl | rfl | rfl <;> rfl) (by unfold maxLen; omega) (by omega) (by simp; omega) ?_; intro tv5 W5 o5 g5; obtain ⟨a5, c5, rfl, _, _⟩ := own_slice o5; have g6 : (W.alloc (Obj.cells #[.slice a k c, .slice a1 (k + 1) c1, .slice a2 (k + 2) c2, .slice a3 (k + 3) c3, .int .i64 (N : Int)] 163)).grownBy W5 (Value.slice ta N tc).ownBlock := ⟨g5.os, g5.tape, g5.output, g5.size, g5.block⟩; have KF := hide (kept_of (off := 10) K3.out (by decide) (by decide) (by decide) hwb HC.out HRW.out o5 g6 hB0); obtain ⟨f0, _⟩ := cell_of (j := 0) (u := .slice a k c) (beside g6 HXX.out hnx.out) rfl; obtain ⟨f1, _⟩ := cell_of (j := 1) (u := .slice a1 (k + 1) c1) (beside g6 HXX.out hnx.out) rfl; obtain ⟨f2, _⟩ := cell_of (j := 2) (u := .slice a2 (k + 2) c2) (beside g6 HXX.out hnx.out) rfl; obtain ⟨f3, _⟩ := cell_of (j := 3) (u := .slice a3 (k + 3) c3) (beside g6 HXX.out hnx.out) rfl; obtain ⟨f4, _⟩ := cell_of (j := 4) (u := .int .i64 (N : Int)) (beside g6 HXX.out hnx.out) rfl; obtain ⟨fw, ff⟩ := cell_of (j := 10) (u := .slice ta N tc) (beside g6 HWB.out hnw.out) HCT.out; clear o5 g5 g6)
      all_goals (go_wp2; go_end0; exact ⟨rfl, _, _, _, _, KF.out, fun g hg => by rcases hg with hg | hg | hg | hg; exact HB9.out g hg; exact HB91.out g hg; exact HB92.out g hg; exact HB93.out g hg⟩)
end Go.Proofs.YtkncboinfcnklaaGreatDoor

namespace Go.Proofs.YtkncboinfcnklaaGreatDoor
open Go.RowKit Go.Deep Go.Proofs.YtkncboinfcnklaaGreatDoor.Mth

/-! ### lists of single cells that are handed in -/
def lentV (xs cs0 : List Value) (m : Value) (k : Nat) : List Value := xs ++ List.replicate k m ++ cs0.drop (xs.length + k)
theorem lentV_len {xs cs0 : List Value} {m : Value} {k : Nat} (h : cs0.length = xs.length + 3) (hk : k ≤ 3) : (lentV xs cs0 m k).length = xs.length + 3 := by
  unfold lentV
  simp only [List.length_append, List.length_replicate, List.length_drop]
  omega
theorem lentV_set {xs cs0 : List Value} {m : Value} {k : Nat} (h : cs0.length = xs.length + 3) (hk : k < 3) : (lentV xs cs0 m k).set (xs.length + k) m = lentV xs cs0 m (k + 1) := by
  unfold lentV
  rw [List.set_append_right _ _ (by simp), List.length_append, List.length_replicate, Nat.sub_self, List.drop_eq_getElem_cons (by omega), List.set_cons_zero, List.replicate_succ']
  simp [Nat.add_assoc]
theorem lentV_head {xs cs0 : List Value} {m : Value} {j : Nat} (h : j < xs.length) : (lentV xs cs0 m 3)[j]? = xs[j]? := by
  unfold lentV
  rw [List.append_assoc, List.getElem?_append_left h]
theorem lentV_tail {xs cs0 : List Value} {m : Value} {j : Nat} (h : xs.length ≤ j) (h2 : j < xs.length + 3) : (lentV xs cs0 m 3)[j]? = some m := by
  unfold lentV
  rw [List.getElem?_append_left (by simp; omega), List.getElem?_append_right h, List.getElem?_replicate, if_pos (by omega)]
def wipedV (cs : List Value) (u : Value) (k : Nat) : List Value := List.replicate k u ++ cs.drop k
theorem wipedV_set {cs : List Value} {u : Value} {k : Nat} (h : k < cs.length) : (wipedV cs u k).set k u = wipedV cs u (k + 1) := by
  unfold wipedV
  rw [List.set_append_right _ _ (by simp), List.length_replicate, Nat.sub_self, List.drop_eq_getElem_cons h, List.set_cons_zero, List.replicate_succ']
  simp
theorem wipedV_at {cs : List Value} {u : Value} {k j : Nat} (h : k ≤ j) : (wipedV cs u k)[j]? = cs[j]? := by
  unfold wipedV
  rw [List.getElem?_append_right (by simpa using h), List.length_replicate, List.getElem?_drop]
  congr 1
  omega
end Go.Proofs.YtkncboinfcnklaaGreatDoor

namespace Go.Proofs.YtkncboinfcnklaaGreatDoor
open Go.RowKit Go.Deep Go.Proofs.YtkncboinfcnklaaGreatDoor.Mth

set_option maxRecDepth 100000 in
set_option maxHeartbeats 2000000 in
theorem keepTexts2_any (w : World) (B0 wb B : Nat) (v tv : Value) (n N : Nat) (ys xs : List Value) (C : Array Value) (hown : w.ownsRow B0 9 1 v n ys) (hwb : wb < B0) (hB0 : B0 ≤ w.heap.size) (hC : w.heap[wb]? = some (Obj.cells C 91 (0, 0))) (hCs : C.size = 15) (hct : C[11]? = some tv)
    (hrow : w.ownsRow B 166 5 tv N xs) (htv : ∀ g, some g = tv.ownBlock → g < B0) (hBB : B ≤ B0) (hn : n ≤ 4194304) (hN : N ≤ 4194304) :
    Calls Tryz.prog 111 #[.pointer (some ⟨wb, 9, none⟩), v] w fun e w' => e = .returned (.tuple #[]) ∧ ∃ tv' va vb vc, Kept w w' B0 wb 11 B 166 9 1 (fT N) tv tv' N xs C ⟨v, va, vb, vc⟩ n ∧ KB B0 v va vb vc := by
  obtain ⟨i0, hi0, hz0, hz1, hz2⟩ := info_parts Tryz.info9
  obtain ⟨j0, hj0, hy0, hy1, hy2⟩ := info_parts Tryz.info166
  have hyl := hown.1
  have HB9 := hide (fun g hg => (own_block (g := g) hown hg).1)
  have HOWN := hide hown
  have HC := hide hC
  have HROW := hide hrow
  have HTV := hide htv
  have c11 := (cell_of hC hct).1
  have hv : ∃ a c, v = .slice a n c ∧ n ≤ c ∧ c ≤ maxLen := by
    rcases hown.2 with ⟨rfl, rfl⟩ | ⟨g, cap, cur, rfl, _, _, h1, h2, _⟩
    · exact ⟨none, 0, rfl, Nat.le_refl _, by unfold maxLen; omega⟩
    · exact ⟨_, cap, rfl, h1, h2⟩
  have htvv : ∃ a c, tv = .slice a N c ∧ N ≤ c ∧ c ≤ maxLen := by
    rcases hrow.2 with ⟨rfl, rfl⟩ | ⟨g, cap, cur, rfl, _, _, h1, h2, _⟩
    · exact ⟨none, 0, rfl, Nat.le_refl _, by unfold maxLen; omega⟩
    · exact ⟨_, cap, rfl, h1, h2⟩
  obtain ⟨a, c, rfl, hnc, hcm⟩ := hv
  obtain ⟨ta, tc, rfl, hNc, hNm⟩ := htvv
  unfold maxLen at hcm hNm
  have HCT := hide hct
  have HCS := hide hCs
  clear hown hC hrow htv hct
  go_enter Tryz.func111, Tryz.ntmps111
  go_wp2_with (first | (go_at_call 138; refine (markText_any N _ (by omega)).mono ?_; rintro e w1 ⟨rfl, hb1⟩; have HB1 := hide hb1; clear hb1))
  have HOWN1 := hide (HOWN.out.kept (row := none) ⟨HB1.out.os, HB1.out.tape, HB1.out.output, HB1.out.size, fun k hk _ => HB1.out.block k hk⟩ (by cases (Value.slice a n c).ownBlock <;> simp))
  clear HOWN c11
  go_loopw [6] (fun i wr => ∃ k : Nat, k ≤ n ∧ i = .int .i64 k ∧ wr.ownsRow B0 9 1 (.slice a n c) n (mkTo (fT N) ys k) ∧ w1.grownBy wr (Value.slice a n c).ownBlock) (fun i _ => n - (intOf i).toNat)
  case atStart => exact ⟨0, Nat.zero_le _, rfl, by simpa [mkTo, mks] using HOWN1.out, ⟨rfl, rfl, rfl, Nat.le_refl _, fun _ _ _ => rfl⟩⟩
  case round =>
    obtain ⟨k, hk, rfl, ho, hg⟩ := hrel
    have HO := hide ho
    have HG := hide hg
    clear ho hg
    by_cases hlt : k < n
    · have hsome : ∃ g, a = some ⟨g, 0, none⟩ := by
        rcases HO.out.2 with ⟨q, q2⟩ | ⟨g, cap, cur, q, _⟩
        · omega
        · injection q with q; exact ⟨g, q⟩
      obtain ⟨g, rfl⟩ := hsome
      obtain ⟨⟨y, hcell⟩, hfr⟩ := own_at HO.out (i := k) (by omega)
      go_wp2
      go_roundw
      case rel =>
        refine ⟨k + 1, by omega, by go_num, ?_, ⟨HG.out.os, HG.out.tape, HG.out.output, by have := HG.out.size; simpa using this, fun q hq hne => ?_⟩⟩
        · have := own_store (y := .string (mT N)) HO.out (i := k) (by omega)
          rwa [show (mkTo (fT N) ys k).set k (.string (mT N)) = mkTo (fT N) ys (k + 1) from mkTo_set (f := fT N) (by rw [hyl]; omega)] at this
        · rw [set_other (fun e => hne (by simp [Value.ownBlock, e]))]
          exact HG.out.block q hq hne
      case measure => simp [intOf]; omega
    · have hke : k = n := by omega
      subst hke
      have HO2 : Hid (wr.ownsRow B0 9 1 (.slice a k c) k (mks (fT N) (k * 1))) := by
        have := HO.out
        rw [mkTo_full (by rw [hyl]; omega)] at this
        rwa [Nat.mul_one]
      have HSAME : Hid (∀ g : Nat, g < B0 → wr.heap[g]? = w.heap[g]?) := by
        intro g hg
        have hs1 := HB1.out.size
        rw [HG.out.block g (by omega) (fun q => by have := (own_block HOWN1.out q).1; omega)]
        exact HB1.out.block g (by omega)
      have hsz : w.heap.size ≤ wr.heap.size := Nat.le_trans HB1.out.size HG.out.size
      have K0 : Hid (KSt w (wr.alloc (Obj.cells #[.slice a k c, .slice none 0 0, .slice none 0 0, .slice none 0 0, .int .i64 (N : Int)] 166)) B0 wr.heap.size 166 9 1 (.slice a k c) k (fT N) #[.slice a k c, .slice none 0 0, .slice none 0 0, .slice none 0 0, .int .i64 (N : Int)] []) := by
        refine ⟨HO2.out.alloc _, ?_, by omega, fun g hg => ?_, HG.out.os.trans HB1.out.os, HG.out.tape.trans HB1.out.tape, HG.out.output.trans HB1.out.output, by simp; omega, fun p hp => by cases hp⟩
        · show (wr.heap.push _)[wr.heap.size]? = _
          rw [Array.getElem?_push, if_pos rfl]
        · rw [_root_.Go.heap_alloc_old wr _ (r := g) (by omega)]
          exact HSAME.out g hg
      clear HO HG HOWN1 HB1
      go_wp2_with (first
        | (at_builtin; refine wpList_append_keep _ rfl (.tmp 28) (.tmp 30) 58 rfl B0 9 i0 (.string ByteArray.empty) 1 16 Tryz.underlying58 hi0 hz0 hz1 hz2 rfl (by decide) _ _ _ rfl (K0.out.own.alloc _) ⟨_, 0, none⟩ 1 1 [.string (mT N)] rfl rfl (cells_new2 _ _ (by simp) _ _ _ rfl) (by intro u hu; simp at hu; subst hu; rfl) (by unfold maxLen; omega) (by omega) (by have := K0.out.size; simp at this ⊢; omega) (by omega) ?_; intro v1 W1 o1 g1 k1 r1; obtain ⟨a1, c1, rfl, _, _⟩ := own_slice o1; have HB91 := hide (fun g hg => (own_block (g := g) o1 hg).1); have K1 := hide (KSt.app (i := 1) (m := 1) K0.out (by decide) (by exact o1) g1 k1 r1 (by simp)); obtain ⟨hx1, hf1⟩ := cell_of (j := 1) (u := .slice none 0 0) (KSt.x2 K0.out (by decide) g1) rfl; clear o1 g1 k1 r1)
        | (at_builtin; refine wpList_append_keep _ rfl (.tmp 33) (.tmp 36) 58 rfl B0 9 i0 (.string ByteArray.empty) 1 16 Tryz.underlying58 hi0 hz0 hz1 hz2 rfl (by decide) _ _ _ rfl (K1.out.own.alloc _) ⟨_, 0, none⟩ 2 2 [.string (mT N), .string (mT N)] rfl rfl (cells_new2 _ _ (by simp) _ _ _ rfl) (by intro u hu; simp at hu; subst hu; rfl) (by unfold maxLen; omega) (by omega) (by have := K1.out.size; simp at this ⊢; omega) (by omega) ?_; intro v2 W2 o2 g2 k2 r2; obtain ⟨a2, c2, rfl, _, _⟩ := own_slice o2; have HB92 := hide (fun g hg => (own_block (g := g) o2 hg).1); have K2 := hide (KSt.app (i := 2) (m := 2) K1.out (by decide) (by exact o2) g2 k2 r2 (by simp)); obtain ⟨hx2, hf2⟩ := cell_of (j := 2) (u := .slice none 0 0) (KSt.x2 K1.out (by decide) g2) rfl; clear o2 g2 k2 r2)
        | (at_builtin; refine wpList_append_keep _ rfl (.tmp 39) (.tmp 43) 58 rfl B0 9 i0 (.string ByteArray.empty) 1 16 Tryz.underlying58 hi0 hz0 hz1 hz2 rfl (by decide) _ _ _ rfl (K2.out.own.alloc _) ⟨_, 0, none⟩ 3 3 [.string (mT N), .string (mT N), .string (mT N)] rfl rfl (cells_new2 _ _ (by simp) _ _ _ rfl) (by intro u hu; simp at hu; subst hu; rfl) (by unfold maxLen; omega) (by omega) (by have := K2.out.size; simp at this ⊢; omega) (by omega) ?_; intro v3 W3 o3 g3 k3 r3; obtain ⟨a3, c3, rfl, _, _⟩ := own_slice o3; have HB93 := hide (fun g hg => (own_block (g := g) o3 hg).1); have K3 := hide (KSt.app (i := 3) (m := 3) K2.out (by decide) (by exact o3) g3 k3 r3 (by simp)); obtain ⟨hx3, hf3⟩ := cell_of (j := 3) (u := .slice none 0 0) (KSt.x2 K2.out (by decide) g3) rfl; clear o3 g3 k3 r3))
      clear hx1 hf1 hx2 hf2 hx3 hf3 K0 K1 K2 HO2
      have HXX := hide K3.out.x
      have hge := K3.out.ge
      have hWsz := K3.out.size
      obtain ⟨e0, _⟩ := cell_of (j := 0) (u := .slice a k c) K3.out.x rfl
      obtain ⟨e1, _⟩ := cell_of (j := 1) (u := .slice a1 (k + 1) c1) K3.out.x rfl
      obtain ⟨e2, _⟩ := cell_of (j := 2) (u := .slice a2 (k + 2) c2) K3.out.x rfl
      obtain ⟨e3, _⟩ := cell_of (j := 3) (u := .slice a3 (k + 3) c3) K3.out.x rfl
      obtain ⟨e4, _⟩ := cell_of (j := 4) (u := .int .i64 (N : Int)) K3.out.x rfl
      have HWB := hide ((K3.out.same wb hwb).trans HC.out)
      obtain ⟨ew, ef⟩ := cell_of (j := 11) (u := .slice ta N tc) HWB.out HCT.out
      have HRW := hide (own_same HROW.out (fun g hg => K3.out.same g (HTV.out g hg)))
      have hnx : Hid (some wr.heap.size ≠ (Value.slice ta N tc).ownBlock) := fun q => by have := HTV.out _ q; omega
      have hnw : Hid (some wb ≠ (Value.slice ta N tc).ownBlock) := fun q => by
        obtain ⟨_, _, D, hD⟩ := own_block HROW.out q
        rw [HC.out] at hD
        injection hD with hD
        injection hD with _ hD _
        exact absurd hD (by decide)
      generalize W3.setCell ⟨wr.heap.size, 3, none⟩ (.slice a3 (k + 3) c3) = W at *
      generalize wr.heap.size = xb at *
      have ew2 : (W.alloc (Obj.cells #[.slice a k c, .slice a1 (k + 1) c1, .slice a2 (k + 2) c2, .slice a3 (k + 3) c3, .int .i64 (N : Int)] 166)).cell? ⟨wb, 11, none⟩ = some (.slice ta N tc) := ((below_alloc W _).cell (p := ⟨wb, 11, none⟩) (World.block_lt_of_cell? _ _ ew)).trans ew
      go_region_law (refine step_own _ rfl _ _ 84 rfl B 166 j0 (.agg #[.slice none 0 0, .slice none 0 0, .slice none 0 0, .slice none 0 0, .int .i64 0]) 5 104 Tryz.underlying84 hj0 hy0 hy1 hy2 rfl (by decide) _ _ _ rfl (by exact HRW.out.alloc _) ⟨W.heap.size, 0, none⟩ 1 1 [.slice a k c, .slice a1 (k + 1) c1, .slice a2 (k + 2) c2, .slice a3 (k + 3) c3, .int .i64 (N : Int)] rfl rfl (by exact cells_new _ _ _ _ rfl) (by intro u hu; simp at hu; rcases hu with rfl | rfl | rfl | rfl | rfl <;> rfl) (by unfold maxLen; omega) (by omega) (by simp; omega) ?_; intro tv5 W5 o5 g5; obtain ⟨a5, c5, rfl, _, _⟩ := own_slice o5; have g6 : (W.alloc (Obj.cells #[.slice a k c, .slice a1 (k + 1) c1, .slice a2 (k + 2) c2, .slice a3 (k + 3) c3, .int .i64 (N : Int)] 166)).grownBy W5 (Value.slice ta N tc).ownBlock := ⟨g5.os, g5.tape, g5.output, g5.size, g5.block⟩; have KF := hide (kept_of (off := 11) K3.out (by decide) (by decide) (by decide) hwb HC.out HRW.out o5 g6 hB0); obtain ⟨f0, _⟩ := cell_of (j := 0) (u := .slice a k c) (beside g6 HXX.out hnx.out) rfl; obtain ⟨f1, _⟩ := cell_of (j := 1) (u := .slice a1 (k + 1) c1) (beside g6 HXX.out hnx.out) rfl; obtain ⟨f2, _⟩ := cell_of (j := 2) (u := .slice a2 (k + 2) c2) (beside g6 HXX.out hnx.out) rfl; obtain ⟨f3, _⟩ := cell_of (j := 3) (u := .slice a3 (k + 3) c3) (beside g6 HXX.out hnx.out) rfl; obtain ⟨f4, _⟩ := cell_of (j := 4) (u := .int .i64 (N : Int)) (beside g6 HXX.out hnx.out) rfl; obtain ⟨fw, ff⟩ := cell_of (j := 11) (u := .slice ta N tc) (beside g6 HWB.out hnw.out) HCT.out; clear o5 g5 g6)
      all_goals (go_wp2; go_end0; exact ⟨rfl, _, _, _, _, KF.out, fun g hg => by rcases hg with hg | hg | hg | hg; exact HB9.out g hg; exact HB91.out g hg; exact HB92.out g hg; exact HB93.out g hg⟩)
end Go.Proofs.YtkncboinfcnklaaGreatDoor
