import Derived.Laws.OwnMore
import Derived.Test.YtkncboinfcnklabGreatDoorQ13
import Derived.Test.YtkncboinfcnklabGreatDoorQ3
import Derived.Deep.RegionLaw
import Derived.Lib.BufferWrite
import Derived.Laws.CopyRow
import Derived.Laws.MakeOwn
namespace Go.Proofs.YtkncboinfcnklabGreatDoor
open Go.RowKit Go.Deep Go.Shelf Go.Proofs.YtkncboinfcnklabGreatDoor.Mth
attribute [local go_sem] Oper.semAt_some

/-- The segments of the levels that came. -/
def sgs (bs : Nat → List Nat) (l : List (Fin 6)) : List Nat := l.flatMap (fun x => bs x.1)
theorem sgs_snoc (bs : Nat → List Nat) (l : List (Fin 6)) (x : Fin 6) : sgs bs (l ++ [x]) = sgs bs l ++ bs x.1 := by simp [sgs]

set_option maxRecDepth 100000 in
set_option maxHeartbeats 4000000 in
theorem segments_in {w : World} {ρ : Nat → Nat} {B N lb : Nat} {G : Gh} {L : Lg} (h : LogX w ρ B N lb G L) (hl : ∀ i, i < 6 → (L.lev i).length ≤ 500000) :
    CallsIn Fence.wide 3 Tryz.prog 29 #[ptrV lb] w fun e w' => ∃ v, e = .returned v ∧ w'.ownsRow w.heap.size 70 1 v (sgs G.bs (downTo 6)).length ((sgs G.bs (downTo 6)).map ptrV) ∧ Below w.heap.size w w' := by
  obtain ⟨i0, hi0, hz0, hz1, hz2⟩ := info_parts Tryz.info70
  have hlbw : lb < w.heap.size := (h.lt lb (by rw [h.b.rl]; omega)).1
  have hlr : ∀ j, j < 6 → w.cell? ⟨lb, 8 + j, none⟩ = some (G.lr j) := fun j hj => (cell_of h.b.blk (lgC_lr G L j hj)).1
  have hrow : Hid (∀ j, j < 6 → w.ownsRow B 70 1 (G.lr j) (G.bs j).length ((G.bs j).map ptrV)) := fun j hj => h.v.row j hj
  have hlen : Hid (∀ j, j < 6 → (G.bs j).length ≤ 500000) := fun j hj => by rw [h.v.len j hj]; exact hl j hj
  clear h hl
  refine callsIn_of_wp_marks Tryz.func29 rfl trivial ?_ rfl
  simp only [Tryz.ntmps29, List.size_toArray, List.length_cons, List.length_nil, Nat.reduceAdd, Nat.reduceSub, Array.replicate_succ, Array.replicate_zero, List.push_toArray, List.append_toArray, List.nil_append, List.cons_append]
  gi_wp2_with (refine ⟨trivial, ?_⟩; gi_at_call 50; refine (back_in Fence.wide 2 trivial rfl _ _ _ _).mono ?_; rintro e w' ⟨rfl, rfl⟩)
  have bO := Boxed.new w 68 (.slice none 0 0)
  have bN := Boxed.new (w.alloc (.cells #[.slice none 0 0] 68)) 120 (.slice (some ⟨lb, 8, none⟩) 6 6)
  rw [World.size_alloc] at bN
  have hB0 : Below w.heap.size w ((w.alloc (.cells #[.slice none 0 0] 68)).alloc (.cells #[.slice (some ⟨lb, 8, none⟩) 6 6] 120)) := ((Below.refl _ w).alloc (Nat.le_refl _) _).alloc (by simp) _
  have hSK : SeqStopsK Fence.wide 2 Tryz.prog 76 #[.pointer (some ⟨w.heap.size + 1, 0, none⟩)] (fun x : Fin 6 => #[Value.int .i64 (x.1 : Int), G.lr x.1]) (Kb w.heap.size (w.heap.size + 2)) (fun ys => ys = downTo 6) (fun pre => ∃ k, k ≤ 6 ∧ pre = downTo k) 6 ((w.alloc (.cells #[.slice none 0 0] 68)).alloc (.cells #[.slice (some ⟨lb, 8, none⟩) 6 6] 120)) := by
    intro l J Jx W hW _ _ hY h0
    have hb := hW.cell (p := ⟨w.heap.size + 1, 0, none⟩) (by simp)
    exact back1_in Fence.wide 2 trivial rfl (by omega) l (w.heap.size + 1) w.heap.size (w.heap.size + 2) lb G.lr (by omega) (by omega) (by omega) (by omega) J Jx hY W (hb.trans bN.cell) (fun j hj => by
      rw [hW.cell (p := ⟨lb, 8 + j, none⟩) (by simp; omega), hB0.cell (p := ⟨lb, 8 + j, none⟩) hlbw]
      exact hlr j hj) h0
  refine wpIn_rangeFunc_ownG rfl (by omega) (gf := 76) (lb := #[.pointer (some ⟨w.heap.size + 1, 0, none⟩)]) rfl trivial (enters_of Tryz.func76 (by kernel_rfl) rfl)
    hSK (fun h k => h.trans k) (Kb.put (by simp)) (Below.refl _ _) (fun _ => rfl)
    (fun pre W => (w.heap.size + 2 ≤ W.heap.size ∧ ∃ v, Boxed W w.heap.size 68 v ∧ W.ownsRow (w.heap.size + 2) 70 1 v (sgs G.bs pre).length ((sgs G.bs pre).map ptrV) ∧ ((sgs G.bs pre).length ≤ 500000 * pre.length)) ∧ Below w.heap.size w W)
    (fun _ _ _ => False)
    (OwnFrom.and (OwnFrom.and (fun s X Y row h hg _ => Nat.le_trans h hg.size) (Own.from (holdsRow_own (w.heap.size + 2) w.heap.size 68 70 1 (fun pre => (sgs G.bs pre).length) (fun pre => (sgs G.bs pre).map ptrV) (fun pre _ => (sgs G.bs pre).length ≤ 500000 * pre.length)) _)) (ownFrom_below (Nat.le_refl _) (by simp; omega)))
    (fun _ _ _ _ _ hs _ _ => hs)
    ⟨⟨by simp, _, bO.alloc _, World.ownsRow_nil _ _ _ _, by simp [sgs]⟩, hB0⟩
    (fun x => { tmps := #[ptrV lb, undef, .slice none 0 0, .pointer (some ⟨w.heap.size, 0, none⟩), undef, G.lr x.1, ptrV lb, .pointer (some ⟨lb, 0, none⟩), .pointer (some ⟨lb, 8, none⟩), .slice (some ⟨lb, 8, none⟩) 6 6, .func (.func 76) #[] #[.pointer (some ⟨w.heap.size + 1, 0, none⟩)], .int .i64 (x.1 : Int), G.lr x.1, undef, undef, undef, undef], defers := [] }) ?assign ?body ?done ?stop
  case assign =>
    intro l x W K hK
    gi_wp2
    exact hK
  case body =>
    rintro l pre x W ⟨⟨hsz2, v, hv, hrw, hln⟩, hB⟩ hlt
    have hc := hv.cell
    have hfz := hv.frozen
    have hx := hrow.out x.1 x.2
    have hxl := hlen.out x.1 x.2
    have hrwW : W.ownsRow B 70 1 (G.lr x.1) (G.bs x.1).length ((G.bs x.1).map ptrV) := own_same hx (fun g q => hB.block g (own_block hx q).2.1)
    have hpl : (sgs G.bs pre).length ≤ 3000000 := by omega
    have hsn := sgs_snoc G.bs pre x
    have hlen2 : (sgs G.bs (pre ++ [x])).length = (sgs G.bs pre).length + (G.bs x.1).length := by rw [hsn, List.length_append]
    have FIN : Hid (∀ v' w1, w1.ownsRow (w.heap.size + 2) 70 1 v' ((sgs G.bs pre).length + (G.bs x.1).length) ((sgs G.bs pre).map ptrV ++ (G.bs x.1).map ptrV) → W.grownBy w1 v.ownBlock → (w1.cell? ⟨w.heap.size, 0, none⟩ = some v ∧ w1.frozen? ⟨w.heap.size, 0, none⟩ = false) ∧ KeepsOthers W (w1.setCell ⟨w.heap.size, 0, none⟩ v') ∧ Kb w.heap.size (w.heap.size + 2) W (w1.setCell ⟨w.heap.size, 0, none⟩ v') ∧ (w.heap.size + 2 ≤ (w1.setCell ⟨w.heap.size, 0, none⟩ v').heap.size ∧ ∃ v, Boxed (w1.setCell ⟨w.heap.size, 0, none⟩ v') w.heap.size 68 v ∧ (w1.setCell ⟨w.heap.size, 0, none⟩ v').ownsRow (w.heap.size + 2) 70 1 v (sgs G.bs (pre ++ [x])).length ((sgs G.bs (pre ++ [x])).map ptrV) ∧ (sgs G.bs (pre ++ [x])).length ≤ 500000 * (pre ++ [x]).length) ∧ Below w.heap.size w (w1.setCell ⟨w.heap.size, 0, none⟩ v')) := by
      intro v' w1 ho hg
      have hv1 : Boxed w1 w.heap.size 68 v := hv.kept hg (hv.not_row (by decide) hrw)
      have hsz1 := hg.size
      have hoth : ∀ k, k < w.heap.size + 2 → k ≠ w.heap.size → (w1.setCell ⟨w.heap.size, 0, none⟩ v').heap[k]? = W.heap[k]? := fun k hk hne => by
        rw [set_other hne]
        exact hg.block k (by omega) (fun q => by have := (own_block hrw q).1; omega)
      refine ⟨⟨hv1.cell, hv1.frozen⟩, ?_, ⟨by simpa using hsz1, hoth⟩, ⟨by simp; omega, v', hv1.set v', ?_, ?_⟩, ⟨hg.os.trans hB.os, hg.tape.trans hB.tape, hg.output.trans hB.output, by have := hB.size; simp; omega, fun k hk => (hoth k (by omega) (by omega)).trans (hB.block k hk)⟩⟩
      · refine (KeepsOthers.of_grownBy hg fun j o ej hj => ?_).trans (KeepsOthers.setCell _ _ _)
        obtain ⟨_, _, D, hD⟩ := own_block hrw ej.symm
        rw [hD] at hj
        cases hj
        rfl
      · rw [hlen2, hsn, List.map_append]
        exact ho.kept (grownBy_setCell' w1 w.heap.size v') (.inr (hv1.not_row (by decide) ho).symm)
      · rw [hlen2, List.length_append, List.length_singleton]
        omega
    clear hx hxl
    have h1c : ∀ u ∈ (G.bs x.1).map ptrV, u.oneCell' = true := by intro u hu; obtain ⟨b, _, rfl⟩ := List.mem_map.1 hu; rfl
    have hxl := hlen.out x.1 x.2
    obtain ⟨a1, c1, e1, _, _⟩ := own_slice hrwW
    rw [e1] at hrwW ⊢
    gi_wp2_with (gi_at_builtin; refine wpListIn_append_any _ rfl _ _ 68 rfl (w.heap.size + 2) B 70 i0 (.pointer none) 1 8 Tryz.underlying68 hi0 hz0 hz1 hz2 rfl (by decide) _ _ _ rfl hrw _ _ _ rfl hrwW h1c (by unfold maxLen; omega) (by omega) hsz2 ?_; intro v' w1 hown' hgrow; obtain ⟨a', c', rfl, _, _⟩ := own_slice hown'; obtain ⟨⟨k1, k2⟩, hfin⟩ := FIN.out _ w1 hown' hgrow; have HFIN := hide hfin; clear hfin hown' hgrow)
    exact ⟨HFIN.out.1.from _, HFIN.out.2.1, HFIN.out.2.2.1, HFIN.out.2.2.2⟩
  case done =>
    rintro D ys W hD rfl ⟨⟨_, v, hv, hrw, hln⟩, hB⟩ hK
    have hc := hv.cell
    gi_wp2
    refine ⟨by simp, .inl ⟨_, _, rfl, run_takeDeferred hK, ?_⟩⟩
    exact ⟨_, results_tmp rfl _ _ _, v, rfl, own_base (ownsRow_putObj hrw _ hK rfl) (by omega), hB.trans (belowK_b (w := w) (Nat.le_refl _) W D _ _ (by simp at hD; omega) hK rfl rfl)⟩
  case stop =>
    rintro D c pre W _ _ h _
    exact h.elim

/-- Log.segments: those of all levels, from the last one on, in a list of its own. -/
theorem segments_any {w : World} {ρ : Nat → Nat} {B N lb : Nat} {G : Gh} {L : Lg} (h : LogX w ρ B N lb G L) (hl : ∀ i, i < 6 → (L.lev i).length ≤ 500000) :
    Calls Tryz.prog 29 #[ptrV lb] w fun e w' => ∃ v, e = .returned v ∧ w'.ownsRow w.heap.size 70 1 v (sgs G.bs (downTo 6)).length ((sgs G.bs (downTo 6)).map ptrV) ∧ Below w.heap.size w w' :=
  callsIn_wide.1 (segments_in h hl)
end Go.Proofs.YtkncboinfcnklabGreatDoor

namespace Go.Proofs.YtkncboinfcnklabGreatDoor
open Go.RowKit Go.Deep Go.Proofs.YtkncboinfcnklabGreatDoor.Mth

theorem made_rep (z : Value) (n : Nat) : madeCells #[z] n = Array.replicate n z := by
  apply Array.ext
  · simp [madeCells]
  · intro i h1 h2
    simp [madeCells] at h1 ⊢
    rw [Nat.mod_one]
    rfl

end Go.Proofs.YtkncboinfcnklabGreatDoor

namespace Go.Proofs.YtkncboinfcnklabGreatDoor
open Go.RowKit Go.Deep Go.Shelf Go.Proofs.YtkncboinfcnklabGreatDoor.Mth

set_option maxRecDepth 100000 in
set_option maxHeartbeats 1000000 in
theorem eqTexts_any {v1 v2 : Value} {l m : List ByteArray} {w : World} (h1 : Rd w v1 l) (h2 : Rd w v2 m) :
    Calls Tryz.prog 47 #[v1, v2] w fun e w' => e = .returned (.bool (decide (l = m))) ∧ Below w.heap.size w w' := by
  obtain ⟨a1, c1, rfl, hc1, hm1⟩ := rd_len h1
  obtain ⟨a2, c2, rfl, hc2, hm2⟩ := rd_len h2
  unfold maxLen at hm1 hm2
  have HA := hide h1
  have HB := hide h2
  clear h1 h2
  by_cases hlm : l.length = m.length
  · have HLM := hide hlm
    rw [← hlm] at hc2 ⊢
    have HB' : Hid (Rd w (.slice a2 l.length c2) m) := by have := HB.out; rw [← hlm] at this; exact this
    clear hlm HB
    generalize hn : l.length = n at *
    have HN := hide hn
    clear hn
    go_enter Tryz.func47, Tryz.ntmps47
    go_wp2_with fail
    go_loopw [13] (fun i wr => ∃ k : Nat, k ≤ n ∧ i = .int .i64 k ∧ (∀ j, j < k → l.getD j ByteArray.empty = m.getD j ByteArray.empty) ∧ Below w.heap.size w wr) (fun i _ => n - (intOf i).toNat)
    case atStart => exact ⟨0, Nat.zero_le _, rfl, fun j hj => absurd hj (by omega), Below.refl _ _⟩
    case round =>
      obtain ⟨k, hk, rfl, hal, hb⟩ := hrel
      by_cases hlt : k < n
      · obtain ⟨b1, o1, rfl, _, d1⟩ := rd_at (HA.out.below hb) k (by rw [HN.out]; exact hlt)
        obtain ⟨b2, o2, rfl, _, d2⟩ := rd_at (HB'.out.below hb) k (by rw [← HLM.out]; exact hlt)
        have d1' := cell_regrown d1
        have d2' := cell_regrown d2
        have HBB := hide hb
        clear hb d1 d2
        have HAL := hide hal
        clear hal
        generalize hx : l.getD k ByteArray.empty = x at *
        generalize hy : m.getD k ByteArray.empty = y at *
        have HX := hide hx
        have HY := hide hy
        clear hx hy
        by_cases hxy : x = y
        · subst hxy
          go_wp2
          refine wp_region_quiet_below (by kernel_rfl) (by kernel_rfl) ?_
          repeat (go_big_quiet_step (fail))
          refine wpQuiet_nil ?_
          intro _ hw'
          obtain ⟨⟨dq, osq⟩, hw''⟩ := hw'
          subst hw''
          have HB2 := hide (HBB.out.trans ((below_regrown wr dq osq).mono HBB.out.size))
          clear d1' d2'
          generalize Sort.grow (redrawn wr dq) osq = w2 at *
          go_wp2
          go_roundw
          case rel => exact ⟨k + 1, by omega, by go_num, fun j hj => by
            by_cases hjk : j < k
            · exact HAL.out j hjk
            · obtain rfl : j = k := by omega
              exact HX.out.trans HY.out.symm, HB2.out⟩
          case measure => simp [intOf]; omega
        · have hne : l ≠ m := fun q => hxy (by rw [← HX.out, ← HY.out, q])
          have hdec : decide (l = m) = false := decide_eq_false hne
          have hdec2 : (x.toList == y.toList) = false := eqS_false hxy
          go_wp2
          refine wp_region_quiet_below (by kernel_rfl) (by kernel_rfl) ?_
          repeat (go_big_quiet_step (fail))
          refine wpQuiet_nil ?_
          intro _ hw'
          obtain ⟨⟨dq, osq⟩, hw''⟩ := hw'
          subst hw''
          have HB2 := hide (HBB.out.trans ((below_regrown wr dq osq).mono HBB.out.size))
          clear d1' d2'
          generalize Sort.grow (redrawn wr dq) osq = w2 at *
          go_wp2
          go_ret
          exact ⟨by simp [hne], HB2.out⟩
      · go_wp2
        go_ret
        have hkn : k = n := by omega
        subst hkn
        refine ⟨?_, hb⟩
        have : l = m := List.ext_getElem (HN.out.trans HLM.out) (fun j q1 q2 => by
          have := hal j (by have := HN.out; omega)
          rw [← List.getElem_eq_getD (h := q1), ← List.getElem_eq_getD (h := q2)] at this
          exact this)
        rw [this]; simp
  · have hne : l ≠ m := fun q => hlm (by rw [q])
    have hdec : decide (l = m) = false := decide_eq_false hne
    rw [hdec]
    clear hdec hne HA HB
    generalize l.length = n at *
    generalize m.length = n' at *
    have hq : ¬ ((n : Int) = (n' : Int)) := by omega
    go_enter Tryz.func47, Tryz.ntmps47
    go_wp2_with fail
    go_ret
    exact ⟨rfl, Below.refl _ _⟩

/-- May a text have this word? -/
def isWd (x : ByteArray) : Bool := decide (x.size ≤ 60 ∧ wd x = [x])

set_option maxRecDepth 100000 in
set_option maxHeartbeats 1000000 in
theorem isWord_any (x : ByteArray) (w : World) (ht : Tab w) (hs : x.size ≤ maxLen) :
    Calls Tryz.prog 27 #[.string x] w fun e w' => e = .returned (.bool (isWd x)) ∧ Below w.heap.size w w' := by
  unfold maxLen at hs
  by_cases h : x.size ≤ 60
  · have HW := hide (words_any x w ht h)
    have hd : isWd x = decide (wd x = [x]) := by unfold isWd; simp [h]
    rw [hd]
    go_enter Tryz.func27, Tryz.ntmps27
    go_wp2_with fail
    refine HW.out.mono ?_
    rintro e w1 ⟨v, rfl, hb, hr⟩
    have HB := hide hb
    have HR := hide (hr.1.below (below_alloc w1 (Obj.cells #[.string x] 9)))
    clear hb hr HW
    have hRD : Rd (w1.alloc (Obj.cells #[.string x] 9)) (.slice (some ⟨w1.heap.size, 0, none⟩) 1 1) [x] := rd_own (World.ownsRow_lit (base := 0) w1 #[.string x] 1 (Nat.zero_le _) (by unfold maxLen; omega) rfl)
    have HQ := hide (eqTexts_any HR.out hRD)
    clear hRD
    go_wp2_with fail
    refine HQ.out.mono ?_
    rintro e w2 ⟨rfl, hb2⟩
    go_wp2
    go_ret
    exact ⟨rfl, HB.out.trans (((below_alloc w1 _).trans (hb2.mono (below_alloc w1 _).size)).mono HB.out.size)⟩
  · have hd : isWd x = false := by unfold isWd; simp [h]
    rw [hd]
    clear hd
    go_enter Tryz.func27, Tryz.ntmps27
    go_wp2_with fail
    go_ret
    exact ⟨rfl, Below.refl _ _⟩
end Go.Proofs.YtkncboinfcnklabGreatDoor

namespace Go.Proofs.YtkncboinfcnklabGreatDoor
open Go.RowKit Go.Deep Go.Shelf Go.Proofs.YtkncboinfcnklabGreatDoor.Mth

/-- The entries of the segments of all levels, from the last level's first one on. -/
def segs (lev : Nat → List (List Ent)) : List (List Ent) := (downTo 6).flatMap (fun x => lev x.1)
theorem LV.pairs {w : World} {ρ : Nat → Nat} {B : Nat} {G : Gh} {L : Lg} (h : LV w ρ B G L) : ∃ ps : List (Nat × List Ent), ps.map Prod.fst = sgs G.bs (downTo 6) ∧ ps.map Prod.snd = segs L.lev ∧ ∀ p ∈ ps, SegAt w B p.1 p.2 (G.se p.1) (G.sm p.1) := by
  refine ⟨(downTo 6).flatMap (fun x => (G.bs x.1).zip (L.lev x.1)), ?_, ?_, ?_⟩
  · rw [List.map_flatMap]
    refine congrArg (fun f => (downTo 6).flatMap f) (funext fun x => ?_)
    exact List.map_fst_zip (Nat.le_of_eq (h.len x.1 x.2))
  · rw [List.map_flatMap]
    refine congrArg (fun f => (downTo 6).flatMap f) (funext fun x => ?_)
    exact List.map_snd_zip (Nat.le_of_eq (h.len x.1 x.2).symm)
  · intro p hp
    obtain ⟨x, _, hx⟩ := List.mem_flatMap.1 hp
    obtain ⟨j, hj, e⟩ := List.getElem_of_mem hx
    rw [List.getElem_zip] at e
    rw [List.length_zip] at hj
    have := h.seg x.1 x.2 j (by omega)
    rw [← List.getElem_eq_getD (h := by omega), ← List.getElem_eq_getD (h := by omega)] at this
    rw [← e]
    exact this

theorem List.getD_map_of_lt {α β : Type} {l : List α} {f : α → β} {k : Nat} (d : β) (e : α) (h : k < l.length) : (l.map f).getD k d = f (l.getD k e) := by
  rw [← List.getElem_eq_getD (h := by simpa using h), ← List.getElem_eq_getD (h := h), List.getElem_map]
/-- What the first segments tell. -/
def qFnd (x : ByteArray) (lo hi : Int) (ps : List (List Ent)) : List Ent := ps.flatMap (fun es => fnd es x lo hi)
def qOpn (x : ByteArray) (lo hi : Int) (ps : List (List Ent)) : Nat := (ps.filter (fun es => mts es x lo hi)).length
theorem qFnd_le (x : ByteArray) (lo hi : Int) : ∀ ps : List (List Ent), (qFnd x lo hi ps).length ≤ ps.flatten.length
  | [] => by simp [qFnd]
  | es :: ps => by
    have := qFnd_le x lo hi ps
    have h2 : (fnd es x lo hi).length ≤ es.length := List.length_filter_le _ _
    simp only [qFnd, List.flatMap_cons, List.flatten_cons, List.length_append] at *
    omega
theorem own_ne {w : World} {B1 B2 : Nat} {e1 e2 : TypeId} {s1 s2 n1 n2 : Nat} {v1 v2 : Value} {xs1 xs2 : List Value} (h1 : w.ownsRow B1 e1 s1 v1 n1 xs1) (h2 : w.ownsRow B2 e2 s2 v2 n2 xs2) (he : e1 ≠ e2) : v1.ownBlock = none ∨ v1.ownBlock ≠ v2.ownBlock := by
  cases q : v1.ownBlock with
  | none => exact Or.inl rfl
  | some g =>
    refine Or.inr (fun q2 => he ?_)
    obtain ⟨_, _, D, hD⟩ := own_block h1 q.symm
    obtain ⟨_, _, D', hD'⟩ := own_block h2 q2
    rw [hD] at hD'
    injection hD' with hD'
    injection hD' with _ e _
theorem below_grown {w wr w' : World} {v : Value} {B : Nat} {e : TypeId} {sz n : Nat} {xs : List Value} (hb : Below w.heap.size w wr) (h : wr.ownsRow B e sz v n xs) (hB : w.heap.size ≤ B) (hg : wr.grownBy w' v.ownBlock) : Below w.heap.size w w' :=
  ⟨hg.os.trans hb.os, hg.tape.trans hb.tape, hg.output.trans hb.output, Nat.le_trans hb.size hg.size, fun k hk => (hg.block k (Nat.lt_of_lt_of_le hk hb.size) (fun q => by have := (own_block h q).1; omega)).trans (hb.block k hk)⟩
theorem eC_one (l : List Ent) : ∀ u ∈ l.flatMap eC, u.oneCell' = true := by
  intro u hu
  obtain ⟨e, _, he⟩ := List.mem_flatMap.1 hu
  simp only [eC, List.mem_cons, List.not_mem_nil, or_false] at he
  rcases he with rfl | rfl | rfl <;> rfl

/-- The young time of a query. -/
def yng (L : Lg) (lo : Int) : Int := max lo ((L.clock : Int) - (L.keep : Int))

set_option maxRecDepth 100000 in
set_option maxHeartbeats 4000000 in
theorem query_yes {w : World} {ρ : Nat → Nat} {B N lb : Nat} {G : Gh} {L : Lg} (h : LogAt w ρ B N lb G L) (ht : Tab w) (x : ByteArray) (hx : x.size ≤ maxLen) (hw : isWd x = true) (lo hi : Int) (hc : L.clock ≤ 1000000000000) (hk : L.keep ≤ 1000000)
    (hl : ∀ i, i < 6 → (L.lev i).length ≤ 500000) (hT : (segs L.lev).flatten.length + L.mem.length ≤ 1048576) (hS : ∀ es ∈ segs L.lev, Tms es) (hM : Tms L.mem) :
    Calls Tryz.prog 12 #[ptrV lb, .string x, .int .i64 lo, .int .i64 hi] w fun e w' => ∃ v, e = .returned (.tuple #[v, .int .i64 (qOpn x lo hi (segs L.lev) : Int), .int .i64 0]) ∧ CurE w w' v (qFnd x (yng L lo) hi (segs L.lev) ++ fnd L.mem x (yng L lo) hi) := by
  obtain ⟨i0, hi0, hz0, hz1, hz2⟩ := info_parts Tryz.info49
  have CW := hide (isWord_any x w ht hx)
  rw [hw] at CW
  have CY : Hid (∀ w1, Below w.heap.size w w1 → Calls Tryz.prog 28 #[ptrV lb] w1 fun e w' => e = .returned (.int .i64 ((L.clock : Int) - (L.keep : Int))) ∧ Below w1.heap.size w1 w') := fun w1 hb => young_any (h.x.below hb) hc hk
  have CS : Hid (∀ w1, Below w.heap.size w w1 → Calls Tryz.prog 29 #[ptrV lb] w1 fun e w' => ∃ v, e = .returned v ∧ w'.ownsRow w1.heap.size 70 1 v (sgs G.bs (downTo 6)).length ((sgs G.bs (downTo 6)).map ptrV) ∧ Below w1.heap.size w1 w') := fun w1 hb => segments_any (h.x.below hb) hl
  obtain ⟨ps, hp1, hp2, hp3⟩ := h.x.v.pairs
  obtain ⟨c7, _⟩ := cell_of (j := 7) (u := ptrV G.ms) h.x.b.blk rfl
  have hlbw : lb < w.heap.size := (h.x.lt lb (by rw [h.x.b.rl]; omega)).1
  have HM := hide h.m.seg
  generalize hyy : (L.clock : Int) - (L.keep : Int) = yy at *
  have hyn : yng L lo = max lo yy := by unfold yng; rw [hyy]
  rw [hyn]
  clear hyn hyy
  generalize hsg : segs L.lev = sg at *
  generalize hsb : sgs G.bs (downTo 6) = sb at *
  clear h hsg hsb
  go_enter Tryz.func12, Tryz.ntmps12
  go_wp2_with (first
    | (go_at_call 27; refine CW.out.mono ?_; rintro e w1 ⟨rfl, hb1⟩; have HB1 := hide hb1; clear hb1)
    | (go_at_call 28; refine (CY.out _ HB1.out).mono ?_; rintro e w2 ⟨rfl, hb2⟩; have HB2 := hide (HB1.out.trans (hb2.mono HB1.out.size)); clear hb2)
    | (go_at_call 29; refine (CS.out _ HB2.out).mono ?_; rintro e w3 ⟨sv, rfl, ho3, hb3⟩; have HB3 := hide (HB2.out.trans (hb3.mono HB2.out.size)); have HO3 := hide ho3; clear hb3; obtain ⟨sa, sc, rfl, hsc1, hsc2⟩ := own_slice ho3; clear ho3))
  generalize hYY : max lo yy = Y at *
  have HYY := hide hYY
  clear hYY
  have hn1 : sb.length = ps.length := by rw [← hp1, List.length_map]
  have hn2 : sg.length = ps.length := by rw [← hp2, List.length_map]
  have HP : Hid (∀ k, k < ps.length → sb.getD k 0 = (ps.getD k (0, [])).1 ∧ sg.getD k [] = (ps.getD k (0, [])).2 ∧ SegAt w B (sb.getD k 0) (sg.getD k []) (G.se (sb.getD k 0)) (G.sm (sb.getD k 0)) ∧ (sg.getD k []).length ≤ 1048576 ∧ Tms (sg.getD k [])) := by
    intro k hk
    have e1 : sb.getD k 0 = (ps.getD k (0, [])).1 := by rw [← hp1, List.getD_map_of_lt _ _ hk]
    have e2 : sg.getD k [] = (ps.getD k (0, [])).2 := by rw [← hp2, List.getD_map_of_lt _ _ hk]
    have hm : ps.getD k (0, []) ∈ ps := by rw [← List.getElem_eq_getD (h := hk)]; exact List.getElem_mem hk
    have hm2 : sg.getD k [] ∈ sg := by rw [← List.getElem_eq_getD (h := by omega)]; exact List.getElem_mem _
    refine ⟨e1, e2, ?_, ?_, hS _ hm2⟩
    · rw [e1, e2]; exact hp3 _ hm
    · have := (List.sublist_flatten_of_mem hm2).length_le
      omega
  have HT := hide hT
  have HFL : Hid (∀ k, (qFnd x Y hi (sg.take k)).length + (fnd L.mem x Y hi).length ≤ 1048576) := by
    intro k
    have h1 := qFnd_le x Y hi (sg.take k)
    have h2 : (fnd L.mem x Y hi).length ≤ L.mem.length := List.length_filter_le _ _
    have h3 : (sg.take k).flatten.length ≤ sg.flatten.length := by
      have := congrArg List.length (congrArg List.flatten (List.take_append_drop k sg))
      rw [List.flatten_append, List.length_append] at this
      omega
    omega
  unfold maxLen at hsc2
  have hnb : sb.length ≤ 9223372036854775807 := by omega
  rw [hn1] at HO3 hnb hsc1 ⊢
  generalize hn : ps.length = n at *
  have HN1 := hide hn1
  have HN2 := hide hn2
  have hz2 : w.heap.size ≤ w2.heap.size := HB2.out.size
  clear hp1 hp2 hp3 hT hS hn1 hn2 hn CW CY CS HB1 HB2
  go_loopw [12, 13, 26] (fun v o i wr => ∃ k : Nat, k ≤ n ∧ i = .int .i64 k ∧ o = .int .i64 (qOpn x lo hi (sg.take k) : Int) ∧ CurE w wr v (qFnd x Y hi (sg.take k)) ∧ wr.ownsRow w.heap.size 70 1 (.slice sa n sc) n (sb.map ptrV)) (fun _ _ i _ => n - (intOf i).toNat)
  case atStart => exact ⟨0, Nat.zero_le _, rfl, rfl, ⟨HB3.out, World.ownsRow_nil _ _ _ _⟩, own_base HO3.out hz2⟩
  clear hz2
  case round =>
    obtain ⟨k, hk, rfl, rfl, hcur, hsl⟩ := hrel
    have HCUR := hide hcur
    have HSL := hide hsl
    by_cases hlt : k < n
    · obtain ⟨pe1, pe2, hseg, hsl2, htm⟩ := HP.out k hlt
      obtain ⟨g, rfl⟩ := own_some hsl (by omega)
      have hcell : wr.cell? ⟨g, k, none⟩ = some (ptrV (sb.getD k 0)) := own_get hsl (by rw [List.getElem?_map, List.getElem?_eq_getElem (by rw [HN1.out]; exact hlt), List.getElem_eq_getD 0]; rfl)
      have hseg' := hseg.below hcur.1
      have CF := hide (find_seg hseg' x hx Y hi hsl2 htm)
      have CM : Hid (∀ w1, Below w.heap.size w w1 → Calls Tryz.prog 31 #[ptrV (sb.getD k 0), .string x, .int .i64 lo, .int .i64 hi] w1 fun e w' => e = .returned (.bool (mts (sg.getD k []) x lo hi)) ∧ Below w1.heap.size w1 w') := fun w1 hb => meets_any (hseg.below hb) x hx lo hi hsl2
      have hf1 : qFnd x Y hi (sg.take (k + 1)) = qFnd x Y hi (sg.take k) ++ fnd (sg.getD k []) x Y hi := by
        rw [take_snoc (by rw [HN2.out]; exact hlt) []]
        simp [qFnd]
      have hf2 : qOpn x lo hi (sg.take (k + 1)) = qOpn x lo hi (sg.take k) + (if mts (sg.getD k []) x lo hi then 1 else 0) := by
        rw [take_snoc (by rw [HN2.out]; exact hlt) []]
        generalize sg.getD k [] = es0
        simp only [qOpn, List.filter_append, List.length_append, List.filter_cons, List.filter_nil]
        cases mts es0 x lo hi <;> rfl
      have hfl := HFL.out (k + 1)
      rw [hf1, List.length_append] at hfl
      have hql : qOpn x lo hi (sg.take k) ≤ k := Nat.le_trans (List.length_filter_le _ _) (by simp; omega)
      have HF1 := hide hf1
      have HF2 := hide hf2
      obtain ⟨va, vc, rfl, _, _⟩ := own_slice hcur.2
      clear hcur hsl hseg hseg' htm hf1 hf2 pe1 pe2
      generalize sb.getD k 0 = pb at *
      generalize sg.getD k [] = es at *
      generalize qOpn x lo hi (sg.take k) = ok at *
      have CFN := hide (rfl : fnd es x Y hi = fnd es x Y hi)
      go_wp2_with (first
        | (go_at_call 30; refine CF.out.mono ?_; rintro e w5 ⟨v5, rfl, hc5⟩; obtain ⟨a5, k5, rfl, _, _⟩ := own_slice hc5.2; have HC5 := hide hc5; have HB5 := hide (HCUR.out.1.trans (hc5.1.mono HCUR.out.1.size)); have HCW5 := hide (own_same HCUR.out.2 (fun g hg => hc5.1.block g (own_block HCUR.out.2 hg).2.1)); have HSL5 := hide (own_same HSL.out (fun g hg => hc5.1.block g (own_block HSL.out hg).2.1)); clear hc5)
        | (at_builtin; refine wpList_append_any _ rfl _ _ 33 rfl w.heap.size wr.heap.size 49 i0 (.agg #[.int .i64 0, .int .i64 0, .string ByteArray.empty]) 3 32 Tryz.underlying33 hi0 hz0 hz1 hz2 rfl (by decide) _ _ _ rfl HCW5.out _ _ _ rfl HC5.out.2 (eC_one _) (by unfold maxLen; omega) (by omega) (by have := HB5.out.size; omega) ?_; intro v6 w6 ho6 hg6; have HB6 := hide (below_grown HB5.out HCW5.out (Nat.le_refl _) hg6); have HSL6 := hide (HSL5.out.kept hg6 (own_ne HSL5.out HCW5.out (by decide))); rw [← List.flatMap_append] at ho6; rw [← List.length_append] at ho6; rw [← HF1.out] at ho6; have HO6 := hide ho6; clear ho6 hg6)
        | (go_at_call 31; refine (CM.out _ HB6.out).mono ?_; rintro e w7 ⟨rfl, hb7⟩; have HB7 := hide (HB6.out.trans (hb7.mono HB6.out.size)); have HO7 := hide (own_same HO6.out (fun g hg => hb7.block g (own_block HO6.out hg).2.1)); have HSL7 := hide (own_same HSL6.out (fun g hg => hb7.block g (own_block HSL6.out hg).2.1)); clear hb7))
      · rename_i hmt
        go_roundw
        case rel => exact ⟨k + 1, by omega, by go_num, by rw [HF2.out, if_pos hmt]; go_num, ⟨HB7.out, HO7.out⟩, HSL7.out⟩
        case measure => simp [intOf]; omega
      · rename_i hmt
        go_roundw
        case rel => exact ⟨k + 1, by omega, by go_num, by rw [HF2.out, hmt]; rfl, ⟨HB7.out, HO7.out⟩, HSL7.out⟩
        case measure => simp [intOf]; omega
    · obtain rfl : k = n := by omega
      have htk : sg.take k = sg := List.take_of_length_le (Nat.le_of_eq HN2.out)
      rw [htk] at HCUR
      have hfl := HFL.out k
      rw [htk] at hfl ⊢
      have hm' := HM.out.below HCUR.out.1
      have c7' : wr.cell? ⟨lb, 7, none⟩ = some (ptrV G.ms) := (HCUR.out.1.cell (p := ⟨lb, 7, none⟩) hlbw).trans c7
      have CF := hide (find_seg hm' x hx Y hi (by have := HT.out; omega) hM)
      obtain ⟨va, vc, rfl, _, _⟩ := own_slice HCUR.out.2
      clear hcur hsl hm' c7 HM HFL HP HSL hM
      generalize hOK : qOpn x lo hi sg = ok at *
      have HOK := hide hOK
      clear hOK
      generalize hES : L.mem = es at *
      have HES := hide hES
      clear hES
      generalize G.ms = pb at *
      go_wp2_with (first
        | (go_at_call 30; refine CF.out.mono ?_; rintro e w5 ⟨v5, rfl, hc5⟩; obtain ⟨a5, k5, rfl, _, _⟩ := own_slice hc5.2; have HC5 := hide hc5; have HB5 := hide (HCUR.out.1.trans (hc5.1.mono HCUR.out.1.size)); have HCW5 := hide (own_same HCUR.out.2 (fun g hg => hc5.1.block g (own_block HCUR.out.2 hg).2.1)); clear hc5)
        | (at_builtin; refine wpList_append_any _ rfl _ _ 33 rfl w.heap.size wr.heap.size 49 i0 (.agg #[.int .i64 0, .int .i64 0, .string ByteArray.empty]) 3 32 Tryz.underlying33 hi0 hz0 hz1 hz2 rfl (by decide) _ _ _ rfl HCW5.out _ _ _ rfl HC5.out.2 (eC_one _) (by unfold maxLen; omega) (by omega) (by have := HB5.out.size; omega) ?_; intro v6 w6 ho6 hg6; have HB6 := hide (below_grown HB5.out HCW5.out (Nat.le_refl _) hg6); rw [← List.flatMap_append] at ho6; rw [← List.length_append] at ho6; have HO6 := hide ho6; clear ho6 hg6))
      go_ret3
      rw [HYY.out, HES.out, HOK.out]
      exact ⟨_, rfl, HB6.out, HO6.out⟩

end Go.Proofs.YtkncboinfcnklabGreatDoor

namespace Go.Proofs.YtkncboinfcnklabGreatDoor
open Go.RowKit Go.Deep Go.Shelf Go.Proofs.YtkncboinfcnklabGreatDoor.Mth

def pnd (k : Wk) : Nat := k.list.length + (if k.runs.isSome then 1 else 0)
/-- How many tasks there are. -/
def pends (ks : List Wk) : Nat := (ks.map pnd).sum

set_option maxRecDepth 100000 in
set_option maxHeartbeats 1000000 in
theorem pending_any {w : World} {lb b : Nat} {k : Wk} (h : WkRd w lb b k) (hl : k.list.length ≤ 100) :
    Calls Tryz.prog 68 #[.pointer (some ⟨b, 0, none⟩)] w fun e w' => e = .returned (.int .i64 (pnd k : Int)) ∧ Below w.heap.size w w' := by
  obtain ⟨lv, hb, hr⟩ := h
  obtain ⟨a, c, rfl, hc, hm, _⟩ := hr
  obtain ⟨c1, _⟩ := cellG (j := 1) (u := .slice a k.list.length c) hb rfl
  obtain ⟨c2, _⟩ := cellG (j := 2) (u := .int .i64 (rf k.runs)) hb rfl
  obtain ⟨c3, _⟩ := cellG (j := 3) (u := .int .i64 (ri k.runs)) hb rfl
  have hq : ((rf k.runs == (0 : Int)) && (ri k.runs == (0 : Int))) = !k.runs.isSome := by
    cases k.runs with
    | none => rfl
    | some i => simp only [rf, ri, Option.isSome]; rw [Bool.and_eq_false_iff.2 (Or.inr (by simp; omega))]; rfl
  have hp : pnd k = k.list.length + (if k.runs.isSome then 1 else 0) := rfl
  generalize pnd k = pk at *
  generalize rf k.runs = r1 at *
  generalize ri k.runs = r2 at *
  generalize k.list.length = n at *
  clear hb
  cases hs : k.runs.isSome with
  | true =>
    rw [hs] at hq hp
    simp only [Bool.not_true] at hq
    rw [if_pos rfl] at hp
    subst hp
    go_enter Tryz.func68, Tryz.ntmps68
    go_wp2_with fail
    all_goals first
      | (exfalso; rename_i h1 h2; rw [h1, h2] at hq; revert hq; decide)
      | (go_ret; exact ⟨by go_num, Below.refl _ _⟩)
  | false =>
    rw [hs] at hq hp
    simp only [Bool.not_false] at hq
    simp at hp
    subst hp
    go_enter Tryz.func68, Tryz.ntmps68
    go_wp2_with fail
    all_goals first
      | (exfalso; rename_i h1 h2; revert hq; simp [h1, h2]; done)
      | (exfalso; rename_i h1; revert hq; simp [h1]; done)
      | (go_ret; exact ⟨rfl, Below.refl _ _⟩)

theorem pends_snoc {ks : List Wk} {k : Nat} (h : k < ks.length) : pends (ks.take (k + 1)) = pends (ks.take k) + pnd (ks.getD k wk0) := by
  rw [take_snoc h wk0]
  simp [pends]

set_option maxRecDepth 100000 in
set_option maxHeartbeats 1000000 in
theorem pend_any {w : World} {ρ : Nat → Nat} {B N lb : Nat} {G : Gh} {L : Lg} (h : LogX w ρ B N lb G L) :
    Calls Tryz.prog 41 #[ptrV lb] w fun e w' => e = .returned (.int .i64 (pends L.wks : Int)) ∧ Below w.heap.size w w' := by
  obtain ⟨c14, _⟩ := cell_of (j := 14) (u := G.wr) h.b.blk rfl
  have HW := hide h.wksRd
  have HL : Hid (∀ j, j < L.wks.length → (L.wks.getD j wk0).list.length ≤ 5) := fun j hj => wk_len (h.k.ok j hj)
  obtain ⟨a, c, hwr, hc, hm, hp⟩ := h.wksRd.row
  have hln := h.wksRd.len
  have hfew := h.wksRd.few
  rw [hwr, hln] at c14
  rw [hwr] at HW
  rw [hln] at hc hp HW
  unfold maxLen at hm
  have HP := hide hp
  clear h hp hwr
  generalize hn : L.wks.length = n at *
  have HN := hide hn
  clear hn
  generalize L.wks = ks at *
  go_enter Tryz.func41, Tryz.ntmps41
  go_wp2_with fail
  go_loopw [3, 11] (fun v i wr => ∃ k : Nat, k ≤ n ∧ i = .int .i64 k ∧ v = .int .i64 (pends (ks.take k) : Int) ∧ pends (ks.take k) ≤ 6 * k ∧ Below w.heap.size w wr) (fun _ i _ => n - (intOf i).toNat)
  case atStart => exact ⟨0, Nat.zero_le _, rfl, rfl, by simp [pends], Below.refl _ _⟩
  case round =>
    obtain ⟨k, hk, rfl, rfl, hpk, hb⟩ := hrel
    have HB := hide hb
    by_cases hlt : k < n
    · have hrd := (HW.out.one k (by rw [HN.out]; exact hlt)).below hb
      have hl5 := HL.out k hlt
      have CP := hide (pending_any hrd (by omega))
      have hsn := pends_snoc (ks := ks) (k := k) (by rw [HN.out]; exact hlt)
      have hpk5 : pnd (ks.getD k wk0) ≤ 6 := by unfold pnd; split <;> omega
      have hcell : ∃ b o, a = some ⟨b, o, none⟩ ∧ wr.cell? ⟨b, o + k, none⟩ = some (ptrV (G.wb.getD k 0)) := by
        rcases HP.out with e | ⟨b, o, e, hq⟩
        · rw [e] at hln; simp at hln; omega
        · have := hq k hlt
          exact ⟨b, o, e, (hb.cell (p := ⟨b, o + k, none⟩) (World.block_lt_of_cell? _ _ this)).trans this⟩
      obtain ⟨b, o, rfl, hcell⟩ := hcell
      have HSN := hide hsn
      clear hb hrd hsn
      generalize G.wb.getD k 0 = pb at *
      generalize pnd (ks.getD k wk0) = pk at *
      generalize hpp : pends (ks.take k) = pp at *
      go_wp2_with (first
        | (go_at_call 68; refine CP.out.mono ?_; rintro e w5 ⟨rfl, hb5⟩; have HB5 := hide (HB.out.trans (hb5.mono HB.out.size)); clear hb5))
      go_roundw
      case rel => exact ⟨k + 1, by omega, by go_num, by rw [HSN.out]; go_num, by rw [HSN.out]; omega, HB5.out⟩
      case measure => simp [intOf]; omega
    · obtain rfl : k = n := by omega
      have htk : ks.take k = ks := List.take_of_length_le (Nat.le_of_eq HN.out)
      rw [htk]
      go_wp2
      go_ret
      exact ⟨rfl, HB.out⟩
end Go.Proofs.YtkncboinfcnklabGreatDoor
