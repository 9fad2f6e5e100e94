import Derived.Test.YtkncboinfcnklabGreatDoorQ11
namespace Go.Proofs.YtkncboinfcnklabGreatDoor
open Go.RowKit Go.Deep Go.Proofs.YtkncboinfcnklabGreatDoor.Mth

theorem LogX.lr_ne {w : World} {ρ : Nat → Nat} {B N lb : Nat} {G : Gh} {L : Lg} (h : LogX w ρ B N lb G L) {i : Nat} (hi : i < 6) : some lb ≠ (G.lr i).ownBlock := fun q => by
  have := h.v.rr i hi lb q
  rw [h.b.rl] at this
  omega

set_option maxRecDepth 100000 in
set_option maxHeartbeats 4000000 in
theorem put_log {w : World} {ρ : Nat → Nat} {B N lb : Nat} {G : Gh} {L : Lg} (h : LogX w ρ B N lb G L) (hB : B ≤ w.heap.size) {i : Nat} (hi : i < 6) {s mb : Nat} {es : List Ent} {ev : Value} (hs : SegAt w B s es ev mb) (hr : ∀ k, ownS s mb ev k → ρ k = 4) (hn : ∀ i, i < 6 → ¬ s ∈ G.bs i) (hl : (L.lev i).length ≤ 4000000) :
    Calls Tryz.prog 38 #[ptrV lb, .int .i64 (i : Int), ptrV s] w fun e w' => e = .returned (.tuple #[]) ∧ ∃ ρ' v5, LogX w' ρ' B N lb (G.put i v5 s ev mb) (L.put i es) ∧ LStp w w' ρ ρ' ∧ (∀ g, ρ g ≠ 0 → ρ' g = ρ g) ∧ Same w w' ρ (fun c => c = 3) := by
  obtain ⟨i0, hi0, hz0, hz1, hz2⟩ := info_parts Tryz.info70
  have hrow := h.v.row i hi
  have hlen := h.v.len i hi
  obtain ⟨a, c, hlr, hc, hm⟩ := own_slice hrow
  unfold maxLen at hm
  obtain ⟨c0, f0⟩ := cell_of (j := 8 + i) (u := G.lr i) h.b.blk (lgC_lr G L i hi)
  have c1 := ((below_allocG w (Obj.cells #[ptrV s] 70)).cell (p := ⟨lb, 8 + i, none⟩) (World.block_lt_of_cell? _ _ c0)).trans c0
  have FIN : Hid (∀ v5 W5, W5.ownsRow B 70 1 v5 ((G.bs i).length + 1) ((G.bs i).map ptrV ++ [ptrV s]) → (w.alloc (Obj.cells #[ptrV s] 70)).grownBy W5 (G.lr i).ownBlock → (v5.ownBlock = (G.lr i).ownBlock ∨ v5.ownBlock = some (w.alloc (Obj.cells #[ptrV s] 70)).heap.size) → (W5.cell? ⟨lb, 8 + i, none⟩ = some (G.lr i) ∧ W5.frozen? ⟨lb, 8 + i, none⟩ = false) ∧ ∃ ρ', LogX (W5.setCell ⟨lb, 8 + i, none⟩ v5) ρ' B N lb (G.put i v5 s ev mb) (L.put i es) ∧ LStp w (W5.setCell ⟨lb, 8 + i, none⟩ v5) ρ ρ' ∧ (∀ g, ρ g ≠ 0 → ρ' g = ρ g) ∧ Same w (W5.setCell ⟨lb, 8 + i, none⟩ v5) ρ (fun c => c = 3)) := fun v5 W5 o5 g6 n5 => ⟨cell_of (beside g6 h.b.blk (h.lr_ne hi)) (lgC_lr G L i hi), h.putFin hB hi hs hr hn o5 g6 n5⟩
  have HROW := hide hrow
  rw [hlr] at c0 c1 FIN HROW
  have hbl : (G.bs i).length ≤ 4000000 := by omega
  have hi6 : (i : Int) < 6 := by omega
  clear hrow hlen h hs hr hn hlr
  generalize (G.bs i).map ptrV = xs at *
  generalize hn : (G.bs i).length = n at *
  clear hn
  go_enter Tryz.func38, Tryz.ntmps38
  go_wp2_with fail
  go_region_law (refine step_own_at _ rfl _ _ 68 rfl B 70 i0 (.pointer none) 1 8 Tryz.underlying68 hi0 hz0 hz1 hz2 rfl (by decide) _ _ _ rfl (by exact HROW.out.alloc _) ⟨w.heap.size, 0, none⟩ 1 1 [ptrV s] rfl rfl (by exact cells_new w.drew _ _ _ rfl) (by intro u hu; simp at hu; rw [hu]; rfl) (by unfold maxLen; omega) (by omega) (by simp; omega) ?_; intro v5 W5 o5 g5 n5; obtain ⟨a5, c5, rfl, _, _⟩ := own_slice o5; have g6 : (w.alloc (Obj.cells #[ptrV s] 70)).grownBy W5 (Value.slice a n c).ownBlock := ⟨g5.os, g5.tape, g5.output, g5.size, g5.block⟩; obtain ⟨⟨fb, ff⟩, ρ', hx⟩ := FIN.out _ W5 o5 g6 n5; have HX := hide hx; clear o5 g5 g6 n5 hx)
  all_goals (
    go_wp2
    go_end0
    exact ⟨rfl, ρ', _, HX.out⟩)
end Go.Proofs.YtkncboinfcnklabGreatDoor

namespace Go.Proofs.YtkncboinfcnklabGreatDoor
open Go.RowKit Go.Deep Go.Proofs.YtkncboinfcnklabGreatDoor.Mth

theorem getD_set {α : Type} {l : List α} {q : Nat} (hq : q < l.length) (x z : α) (i : Nat) : (l.set q x).getD i z = if i = q then x else l.getD i z := by
  by_cases h : i = q
  · subst h
    rw [if_pos rfl]
    simp [List.getD, hq]
  · rw [if_neg h]
    simp [List.getD, Ne.symm h]

/-- A worker has become another. -/
theorem LogX.wkFin {w w' : World} {ρ : Nat → Nat} {B N lb : Nat} {G : Gh} {L : Lg} (h : LogX w ρ B N lb G L) (hB : B ≤ w.heap.size) {q : Nat} (hq : q < L.wks.length) (k' : Wk) (v' : Value) (ht : Tch (fun g => g = G.wb.getD q 0 ∨ some g = (G.wl q).ownBlock) w w')
    (hblk : w'.heap[G.wb.getD q 0]? = some (Obj.cells (wkC lb (G.wb.getD q 0) k' v') 110 (0, 0))) (hown : w'.ownsRow B 108 2 v' k'.list.length (k'.list.flatMap tkC)) (hnew : ∀ g, some g = v'.ownBlock → some g = (G.wl q).ownBlock ∨ w.heap.size ≤ g) (hok : WkOk k' ∧ k'.list.Nodup) :
    ∃ ρ', LogX w' ρ' B N lb { G with wl := fun j => if j = q then v' else G.wl j } { L with wks := L.wks.set q k' } ∧ LStp w w' ρ ρ' ∧ (∀ g, ρ g ≠ 0 → ρ' g = ρ g) ∧ Same w w' ρ (fun c => c = 3) := by
  have hS : ∀ k, (k = G.wb.getD q 0 ∨ some k = (G.wl q).ownBlock) → ρ k = 20 + q ∧ ¬ isN w k := by
    rintro k (e | e)
    · rw [e]
      exact ⟨h.k.rb q hq, notN (h.k.one q hq) (by decide)⟩
    · obtain ⟨_, _, D, hD⟩ := own_block (h.k.lst q hq) e
      exact ⟨h.k.rl q hq k e, notN hD (by decide)⟩
  have hs := h.others ht hS
  have hk := ext_keep (P := fun k => some k = v'.ownBlock) (c := 20 + q) h.lt
  have xb := LHd.role (ρ := ρ) (h.b.same (hs _ (by omega) (by omega))) (fun g q => (hk g (by omega)).trans q)
  have xj := LJ.role (ρ := ρ) (h.j.same (hs _ (by omega) (by omega))) (fun g q => (hk g (by omega)).trans q)
  have xv := LV.role (ρ := ρ) (h.v.same (hs _ (by omega) (by omega))) (fun g q => hk g (by rcases q with q | ⟨i, _, q⟩ <;> omega))
  have xt := LT.role (ρ := ρ) (h.t.same (hs _ (by omega) (by omega))) (fun g q => (hk g (by omega)).trans q)
  have hlen : (L.wks.set q k').length = L.wks.length := by simp
  have hsame : ∀ i, i < L.wks.length → i ≠ q → Same w w' ρ (fun c => c = 20 + i) := fun i _ hne => hs _ (by omega) (by omega)
  have xk : LW w' (ext ρ w.heap.size (fun k => some k = v'.ownBlock) (20 + q)) B lb { G with wl := fun j => if j = q then v' else G.wl j } { L with wks := L.wks.set q k' } := by
    refine ⟨own_same h.k.row (fun g e => hs (fun c => c = 5) (by omega) (by omega) g (Or.inl (h.k.rw g e))), by show G.wb.length = (L.wks.set q k').length; rw [hlen]; exact h.k.len, fun i hi => ?_, fun i hi => ?_, fun i hi => ?_, by show 0 < (L.wks.set q k').length ∧ (L.wks.set q k').length ≤ 4; rw [hlen]; exact h.k.few, fun i hi => ?_, fun g e => (hk g (by rw [h.k.rw g e]; omega)).trans (h.k.rw g e), fun i hi => ?_, fun i hi g e => ?_⟩
    all_goals (
      have hi' : i < L.wks.length := by
        have hi2 : i < (L.wks.set q k').length := hi
        rw [hlen] at hi2
        exact hi2)
    · show w'.heap[G.wb.getD i 0]? = some (Obj.cells (wkC lb (G.wb.getD i 0) ((L.wks.set q k').getD i wk0) (if i = q then v' else G.wl i)) 110 (0, 0))
      rw [getD_set hq]
      by_cases e : i = q
      · rw [if_pos e, if_pos e, e]; exact hblk
      · rw [if_neg e, if_neg e]
        exact (hsame i hi' e _ (Or.inl (h.k.rb i hi'))).trans (h.k.one i hi')
    · show w'.ownsRow B 108 2 (if i = q then v' else G.wl i) ((L.wks.set q k').getD i wk0).list.length (((L.wks.set q k').getD i wk0).list.flatMap tkC)
      rw [getD_set hq]
      by_cases e : i = q
      · rw [if_pos e, if_pos e]; exact hown
      · rw [if_neg e, if_neg e]
        exact own_same (h.k.lst i hi') (fun g e2 => hsame i hi' e g (Or.inl (h.k.rl i hi' g e2)))
    · show WkOk ((L.wks.set q k').getD i wk0) ∧ ((L.wks.set q k').getD i wk0).list.Nodup
      rw [getD_set hq]
      by_cases e : i = q
      · rw [if_pos e]; exact hok
      · rw [if_neg e]; exact h.k.ok i hi'
    · exact h.k.ge i hi'
    · show ext ρ w.heap.size (fun k => some k = v'.ownBlock) (20 + q) (G.wb.getD i 0) = 20 + i
      rw [hk _ (by rw [h.k.rb i hi']; omega)]
      exact h.k.rb i hi'
    · have e' : some g = (if i = q then v' else G.wl i).ownBlock := e
      by_cases e2 : i = q
      · rw [if_pos e2] at e'
        rcases hnew g e' with e3 | e3
        · have := h.k.rl q hq g e3
          rw [hk g (by omega), e2]
          exact this
        · rw [e2]
          exact ext_new e3 e'
      · rw [if_neg e2] at e'
        have := h.k.rl i hi' g e'
        rw [hk g (by omega)]
        exact this
  refine ⟨ext ρ w.heap.size (fun k => some k = v'.ownBlock) (20 + q), ⟨⟨?_, xb.rl⟩, ⟨xj.j, xj.rl⟩, ⟨xv.row, xv.len, xv.seg, xv.rr, xv.rs⟩, xk, ⟨xt.map, xt.rl, xt.ge⟩, ext_lt h.lt ht.size hB (fun k e => (own_block hown e).2.1)⟩, ⟨ht.mono (fun k _ e => ⟨by rw [(hS k e).1]; omega, (hS k e).2⟩), fun k hk2 e => by rw [ext_old hk2]; exact e⟩, hk, hs _ (by omega) (by omega)⟩
  have hC : lgC { G with wl := fun j => if j = q then v' else G.wl j } { L with wks := L.wks.set q k' } = lgC G L := by
    unfold lgC
    simp
  rw [hC]
  exact xb.blk

theorem nodup_len : ∀ (n : Nat) (l : List Nat), l.Nodup → (∀ y ∈ l, y < n) → l.length ≤ n
  | 0, l, _, h => by
    cases l with
    | nil => simp
    | cons a l => have := h a (by simp); omega
  | n + 1, l, hd, h => by
    by_cases hm : n ∈ l
    · have h1 := nodup_len n (l.erase n) (hd.erase n) (fun y hy => by
        have h2 := (List.Nodup.mem_erase_iff hd).1 hy
        have := h y h2.2
        omega)
      rw [List.length_erase_of_mem hm] at h1
      omega
    · have h1 := nodup_len n l hd (fun y hy => by
        have := h y hy
        have : y ≠ n := fun e => hm (by rw [← e]; exact hy)
        omega)
      omega
theorem wk_len {k : Wk} (h : WkOk k ∧ k.list.Nodup) : k.list.length ≤ 5 := nodup_len 5 _ h.2 (fun y hy => by have := h.1.1 y hy; omega)

/-! ### tasks are laid -/
def hasT (ks : List Wk) (i : Nat) : Bool := ks.any (fun k => tkIn k i)
def layOne (fan : Nat) (n : Nat → Nat) (ks : List Wk) (i : Nat) : List Wk :=
  if fan ≤ n i ∧ hasT ks i = false then ks.set (i % ks.length) ⟨(ks.getD (i % ks.length) wk0).list ++ [i], (ks.getD (i % ks.length) wk0).runs, (ks.getD (i % ks.length) wk0).read⟩ else ks
def layTo (fan : Nat) (n : Nat → Nat) (ks : List Wk) : Nat → List Wk
  | 0 => ks
  | i + 1 => layOne fan n (layTo fan n ks i) i
theorem tkC_at : ∀ {l : List Nat} {j : Nat}, j < l.length → (l.flatMap tkC)[j * 2]? = some (.int .i64 ((l.getD j 0 : Nat) : Int)) ∧ (l.flatMap tkC)[j * 2 + 1]? = some (.int .i64 (((l.getD j 0 : Nat) : Int) + 1))
  | f :: l, 0, _ => by simp [tkC]
  | f :: l, j + 1, h => by
    obtain ⟨a, b⟩ := tkC_at (l := l) (j := j) (by simpa using h)
    rw [List.flatMap_cons]
    refine ⟨?_, ?_⟩
    · rw [List.getElem?_append_right (by simp [tkC]; omega)]; simpa [tkC, show (j + 1) * 2 - 2 = j * 2 by omega] using a
    · rw [List.getElem?_append_right (by simp [tkC]; omega)]; simpa [tkC, show (j + 1) * 2 + 1 - 2 = j * 2 + 1 by omega] using b
theorem rdTk_own {w : World} {B : Nat} {v : Value} {l : List Nat} (h : w.ownsRow B 108 2 v l.length (l.flatMap tkC)) : RdTk w v l := by
  obtain ⟨a, c, rfl, hc, hm⟩ := own_slice h
  refine ⟨a, c, rfl, hc, hm, ?_⟩
  by_cases h0 : l = []
  · exact Or.inl h0
  · obtain ⟨g, rfl⟩ := own_some h (List.length_pos_iff.2 h0)
    refine Or.inr ⟨g, rfl, fun j hj => ?_⟩
    obtain ⟨d0, d1⟩ := tkC_at (l := l) hj
    exact ⟨own_get h d0, own_get h d1⟩
theorem rdP_own {w : World} {B : Nat} {e : TypeId} {v : Value} {bs : List Nat} (h : w.ownsRow B e 1 v bs.length (bs.map ptrV)) : RdP w v bs := by
  obtain ⟨a, c, rfl, hc, hm⟩ := own_slice h
  refine ⟨a, c, rfl, hc, hm, ?_⟩
  by_cases h0 : bs = []
  · exact Or.inl h0
  · obtain ⟨g, rfl⟩ := own_some h (List.length_pos_iff.2 h0)
    refine Or.inr ⟨g, 0, rfl, fun j hj => ?_⟩
    rw [Nat.zero_add]
    refine own_get h ?_
    rw [List.getElem?_map, List.getElem?_eq_getElem hj]
    simp [List.getD, hj]
theorem LogX.wksRd {w : World} {ρ : Nat → Nat} {B N lb : Nat} {G : Gh} {L : Lg} (h : LogX w ρ B N lb G L) : WksRd w lb G.wr G.wb L.wks :=
  ⟨rdP_own h.k.row, h.k.len, fun i hi => ⟨G.wl i, h.k.one i hi, rdTk_own (h.k.lst i hi)⟩, fun i hi => (h.k.ok i hi).1, h.k.few.2⟩
end Go.Proofs.YtkncboinfcnklabGreatDoor

namespace Go.Proofs.YtkncboinfcnklabGreatDoor
open Go.RowKit Go.Deep Go.Proofs.YtkncboinfcnklabGreatDoor.Mth

set_option maxHeartbeats 1000000 in
theorem isFull_any {w : World} {ρ : Nat → Nat} {B N lb : Nat} {G : Gh} {L : Lg} (h : LogAt w ρ B N lb G L) :
    Calls Tryz.prog 65 #[ptrV lb] w fun e w' => e = .returned (.bool (decide (L.memory ≤ L.mem.length))) ∧ Below w.heap.size w w' := by
  obtain ⟨c0, _⟩ := cell_of (j := 0) (u := .int .i64 (L.memory : Int)) h.x.b.blk rfl
  obtain ⟨c7, _⟩ := cell_of (j := 7) (u := ptrV G.ms) h.x.b.blk rfl
  obtain ⟨a, c, hme, hc, hm⟩ := own_slice h.m.seg.own
  obtain ⟨d0, _⟩ := cell_of (j := 0) (u := G.me) h.m.seg.blk rfl
  rw [hme] at d0
  unfold maxLen at hm
  clear h hme
  generalize L.mem.length = n at *
  generalize L.memory = m at *
  have hd : decide ((m : Int) ≤ (n : Int)) = decide (m ≤ n) := by simp
  go_enter Tryz.func65, Tryz.ntmps65
  go_wp2_with fail
  go_quiet (fail)
  go_wp2
  go_ret
  exact ⟨by first | rfl | (rw [← hd]; rfl) | simp, drewG w _⟩

theorem layOne_len (fan : Nat) (n : Nat → Nat) (ks : List Wk) (i : Nat) : (layOne fan n ks i).length = ks.length := by
  unfold layOne
  split <;> simp
theorem layTo_len (fan : Nat) (n : Nat → Nat) (ks : List Wk) : ∀ i, (layTo fan n ks i).length = ks.length
  | 0 => rfl
  | i + 1 => by rw [layTo, layOne_len, layTo_len fan n ks i]
end Go.Proofs.YtkncboinfcnklabGreatDoor

namespace Go.Proofs.YtkncboinfcnklabGreatDoor
open Go.RowKit Go.Deep Go.Proofs.YtkncboinfcnklabGreatDoor.Mth

/-- What laying tasks leaves. -/
structure Laid (w w' : World) (ρ : Nat → Nat) (B N lb : Nat) (G : Gh) (L : Lg) (ks : List Wk) : Prop where
  ex : ∃ ρ' wl', LogX w' ρ' B N lb { G with wl := wl' } { L with wks := ks } ∧ LStp w w' ρ ρ' ∧ (∀ g, ρ g ≠ 0 → ρ' g = ρ g) ∧ Same w w' ρ (fun c => c = 3)

set_option maxRecDepth 100000 in
set_option maxHeartbeats 8000000 in
theorem lay_round {w : World} {ρ : Nat → Nat} {B N lb : Nat} {G : Gh} {L : Lg} (h : LogX w ρ B N lb G L) (hB : B ≤ w.heap.size) {k : Nat} (hk : k < 5) (hf : L.fan ≤ (L.lev k).length) (hh : hasT L.wks k = false) {v5 : Value} {W5 : World} {o : Obj}
    (o5 : W5.ownsRow B 108 2 v5 ((L.wks.getD (k % L.wks.length) wk0).list.length + 1) ((L.wks.getD (k % L.wks.length) wk0).list.flatMap tkC ++ tkC k)) (g6 : (w.alloc o).grownBy W5 (G.wl (k % L.wks.length)).ownBlock) (n5 : v5.ownBlock = (G.wl (k % L.wks.length)).ownBlock ∨ v5.ownBlock = some (w.alloc o).heap.size) :
    Laid w (W5.setCell ⟨G.wb.getD (k % L.wks.length) 0, 1, none⟩ v5) ρ B N lb G L (layOne L.fan (fun i => (L.lev i).length) L.wks k) := by
  have hq : k % L.wks.length < L.wks.length := Nat.mod_lt _ h.k.few.1
  generalize hqq : k % L.wks.length = q at *
  have hne : some (G.wb.getD q 0) ≠ (G.wl q).ownBlock := fun e => by
    obtain ⟨_, _, D, hD⟩ := own_block (h.k.lst q hq) e
    exact cells_ne (h.k.one q hq) hD (by decide) rfl
  have hb5 := beside g6 (h.k.one q hq) hne
  have hmem : ¬ k ∈ (L.wks.getD q wk0).list := fun hm => by
    have : hasT L.wks k = true := List.any_eq_true.2 ⟨L.wks.getD q wk0, getDmem hq, by unfold tkIn; rw [decide_eq_true hm, Bool.or_true]⟩
    rw [hh] at this
    cases this
  obtain ⟨ρ', r1, r2, r3, r4⟩ := h.wkFin (w' := W5.setCell ⟨G.wb.getD q 0, 1, none⟩ v5) hB hq ⟨(L.wks.getD q wk0).list ++ [k], (L.wks.getD q wk0).runs, (L.wks.getD q wk0).read⟩ v5
    ⟨g6.os, g6.tape, g6.output, by have := g6.size; simp at this ⊢; omega, fun g hg e => by rw [set_other (fun q' => e (Or.inl q')), g6.block g (by simp; omega) (fun q' => e (Or.inr q')), Mth.hAO w o (r := g) hg]⟩
    (by rw [setCell_blk hb5]; rfl)
    (own_set_other (by simpa [List.flatMap_append] using o5) hb5 (by decide))
    (fun g e => by
      rcases n5 with q5 | q5
      · rw [q5] at e; exact Or.inl e
      · rw [q5] at e; injection e with e; right; rw [e]; simp)
    ⟨⟨fun y hy => by
      rcases List.mem_append.1 hy with hy | hy
      · exact (h.k.ok q hq).1.1 y hy
      · simp at hy; omega, (h.k.ok q hq).1.2⟩, by
      rw [List.nodup_append]
      refine ⟨(h.k.ok q hq).2, by simp, fun a ha b hb e => ?_⟩
      simp at hb
      exact hmem (by rw [← hb, ← e]; exact ha)⟩
  have he : layOne L.fan (fun i => (L.lev i).length) L.wks k = L.wks.set q ⟨(L.wks.getD q wk0).list ++ [k], (L.wks.getD q wk0).runs, (L.wks.getD q wk0).read⟩ := by
    unfold layOne
    rw [if_pos ⟨hf, hh⟩, hqq]
  rw [he]
  exact ⟨⟨ρ', _, r1, r2, r3, r4⟩⟩

theorem Laid.of_below {w w' : World} {ρ : Nat → Nat} {B N lb : Nat} {G : Gh} {L : Lg} (h : LogX w ρ B N lb G L) (hb : Below w.heap.size w w') {ks : List Wk} (he : ks = L.wks) : Laid w w' ρ B N lb G L ks := by
  subst he
  exact ⟨⟨ρ, G.wl, h.below hb, ⟨tch_below hb, fun _ _ q => q⟩, fun _ _ => rfl, Same.below h.lt (by omega) hb⟩⟩
end Go.Proofs.YtkncboinfcnklabGreatDoor

namespace Go.Proofs.YtkncboinfcnklabGreatDoor
open Go.RowKit Go.Deep Go.Proofs.YtkncboinfcnklabGreatDoor.Mth

theorem Laid.trans {w w1 w2 : World} {ρ ρ1 : Nat → Nat} {B N lb : Nat} {G : Gh} {L : Lg} {wl1 : Nat → Value} {ks ks' : List Wk} (h2 : LStp w w1 ρ ρ1) (h3 : ∀ g, ρ g ≠ 0 → ρ1 g = ρ g) (h4 : Same w w1 ρ (fun c => c = 3)) (h : Laid w1 w2 ρ1 B N lb { G with wl := wl1 } { L with wks := ks } ks') : Laid w w2 ρ B N lb G L ks' := by
  obtain ⟨⟨ρ2, wl2, r1, r2, r3, r4⟩⟩ := h
  exact ⟨⟨ρ2, wl2, r1, h2.trans r2, fun g q => (r3 g (by rw [h3 g q]; exact q)).trans (h3 g q), h4.trans (by omega) h3 r4⟩⟩
theorem layOne_no {fan : Nat} {n : Nat → Nat} {ks : List Wk} {i : Nat} (h : ¬ fan ≤ n i ∨ hasT ks i = true) : layOne fan n ks i = ks := by
  unfold layOne
  rw [if_neg]
  rintro ⟨h1, h2⟩
  rcases h with h | h
  · exact h h1
  · rw [h] at h2; cases h2
theorem list_grow_own {w : World} {ρ : Nat → Nat} {B N lb : Nat} {G : Gh} {L : Lg} (h : LogX w ρ B N lb G L) {q : Nat} (hq : q < L.wks.length) : ∃ a c, G.wl q = .slice a (L.wks.getD q wk0).list.length c ∧ (L.wks.getD q wk0).list.length ≤ c ∧ c ≤ maxLen ∧ (L.wks.getD q wk0).list.length ≤ 5 := by
  obtain ⟨a, c, h1, h2, h3⟩ := own_slice (h.k.lst q hq)
  exact ⟨a, c, h1, h2, h3, wk_len (h.k.ok q hq)⟩

set_option maxRecDepth 100000 in
set_option maxHeartbeats 8000000 in
theorem layTasks_any {w : World} {ρ : Nat → Nat} {B N lb : Nat} {G : Gh} {L : Lg} (h : LogX w ρ B N lb G L) (hB : B ≤ w.heap.size) (_hfan : L.fan ≤ 4) (hlv : ∀ i, i < 6 → (L.lev i).length ≤ 4000000) :
    Calls Tryz.prog 67 #[ptrV lb] w fun e w' => e = .returned (.tuple #[]) ∧ Laid w w' ρ B N lb G L (layTo L.fan (fun i => (L.lev i).length) L.wks 5) := by
  obtain ⟨i0, hi0, hz0, hz1, hz2⟩ := info_parts Tryz.info108
  have H0 := hide h
  have HLV := hide hlv
  clear h hlv
  go_enter Tryz.func67, Tryz.ntmps67
  go_wp2_with fail
  go_loopw [5] (fun i wr => ∃ k : Nat, k ≤ 5 ∧ i = .int .i64 k ∧ Laid w wr ρ B N lb G L (layTo L.fan (fun i => (L.lev i).length) L.wks k)) (fun i _ => 5 - (intOf i).toNat)
  case atStart => exact ⟨0, by omega, rfl, Laid.of_below H0.out (Below.refl _ _) rfl⟩
  case round =>
    obtain ⟨k, hk, rfl, hL⟩ := hrel
    by_cases hlt : k < 5
    · obtain ⟨⟨ρ1, wl1, hx, hst, hkp, hsm⟩⟩ := hL
      have hlt1 := hx.lt
      generalize hks : layTo L.fan (fun i => (L.lev i).length) L.wks k = ks at *
      have HNX : Hid (layTo L.fan (fun i => (L.lev i).length) L.wks (k + 1) = layOne L.fan (fun i => (L.lev i).length) ks k) := by show _ = _; rw [layTo, hks]
      have hBr : B ≤ wr.heap.size := Nat.le_trans hB hst.tch.size
      obtain ⟨W1, hW1⟩ : ∃ W1, W1 = wr.alloc (Obj.cells #[.int .i64 (k : Int), .int .i64 ((k : Int) + 1)] 108) := ⟨_, rfl⟩
      have hb1 : Below wr.heap.size wr W1 := by rw [hW1]; exact below_allocG wr _
      have htb : W1.heap[wr.heap.size]? = some (Obj.cells #[.int .i64 (k : Int), .int .i64 ((k : Int) + 1)] 108 (0, 0)) := by rw [hW1]; exact new_blk wr _ _
      have hx1 := hx.below hb1
      obtain ⟨ak, ck, hlr, hck, hmk⟩ := own_slice (hx1.v.row k (by omega))
      have hlk : (G.bs k).length = (L.lev k).length := hx1.v.len k (by omega)
      obtain ⟨d8, _⟩ := cell_of (j := 8 + k) hx1.b.blk (lgC_lr _ _ k (by omega))
      have d8' : W1.cell? ⟨lb, 8 + k, none⟩ = some (.slice ak (L.lev k).length ck) := by rw [d8]; show some (G.lr k) = _; rw [← hlk]; exact congrArg some hlr
      obtain ⟨d1, _⟩ := cell_of (j := 1) (u := .int .i64 (L.fan : Int)) hx1.b.blk rfl
      obtain ⟨d14, _⟩ := cell_of (j := 14) (u := G.wr) hx1.b.blk rfl
      obtain ⟨t0, _⟩ := cell_of (j := 0) (u := .int .i64 (k : Int)) htb rfl
      obtain ⟨t1, _⟩ := cell_of (j := 1) (u := .int .i64 ((k : Int) + 1)) htb rfl
      have CH : Hid (∀ d os, _) := fun d os => Calls.regrown_of (w := W1) (d := d) (os := os) ((hasTask_any ((hx1.below (below_regrown W1 d os)).wksRd) (cell_regrown d14 d os) k (by omega)).mono fun e w' q => ⟨q.1, q.2⟩)
      have e8 := cell_regrown d8'
      have e1 := cell_regrown d1
      have r0 := cell_regrown t0
      have r1 := cell_regrown t1
      have HLN := hide (HLV.out k (by omega))
      have HX1 := hide hx1
      have HB1 := hide hb1
      have HST := hide hst
      have HKP := hide hkp
      have HSM := hide hsm
      have HLT1 := hide hlt1
      have HTB := hide htb
      have HW1 := hide hW1
      have hk6 : (k : Int) < 6 := by omega
      have HHT : Hid (hasT ks k = (ks.any fun k' => tkIn k' k)) := rfl
      clear d8 d8' d1 d14 t0 t1 hx1 hb1 hst hkp hx htb hW1 hlr hlk hsm hlt1
      have HFIN : Hid (∀ dq osq, Laid w (Sort.grow (redrawn W1 dq) osq) ρ B N lb G L ks) := by
        intro dq osq
        have hx2 := HX1.out.below (below_regrown W1 dq osq)
        have hb2 := HB1.out.trans ((below_regrown W1 dq osq).mono HB1.out.size)
        exact ⟨⟨ρ1, wl1, hx2, HST.out.below hb2, HKP.out, HSM.out.trans (by omega) HKP.out (Same.below HLT1.out (by omega) hb2)⟩⟩
      by_cases hf : L.fan ≤ (L.lev k).length
      · have hd2 : decide ((L.fan : Int) ≤ ((L.lev k).length : Int)) = true := decide_eq_true (by omega)
        cases hht : hasT ks k
        · rw [HHT.out] at hht
          have HF := hide hf
          have HH := hide hht
          simp only [hht] at CH
          clear hht
          -- the worker that gets it
          have hq : k % ks.length < ks.length := Nat.mod_lt _ HX1.out.k.few.1
          have hkl : ks.length ≤ 4 := HX1.out.k.few.2
          have hkp : 0 < ks.length := HX1.out.k.few.1
          have HR5 : Hid (∀ W, Below W1.heap.size W1 W → ∃ gw cw, G.wr = .slice (some ⟨gw, 0, none⟩) ks.length cw ∧ ks.length ≤ cw ∧ cw ≤ maxLen ∧ W.cell? ⟨lb, 14, none⟩ = some G.wr ∧ W.cell? ⟨gw, k % ks.length, none⟩ = some (ptrV (G.wb.getD (k % ks.length) 0))) := by
            intro W hW
            have hxW := HX1.out.below hW
            have hrw := hxW.k.row
            have hln : G.wb.length = ks.length := hxW.k.len
            obtain ⟨aw, cw, hwr, hcw, hmw⟩ := own_slice hrw
            have hwr2 : G.wr = .slice aw G.wb.length cw := hwr
            have hrw2 : W.ownsRow B 93 1 G.wr G.wb.length (G.wb.map ptrV) := hrw
            rw [hwr2] at hrw2
            obtain ⟨gw, rfl⟩ := own_some hrw2 (by omega)
            refine ⟨gw, cw, by rw [← hln]; exact hwr2, by rw [← hln]; exact hcw, hmw, (cell_of (j := 14) hxW.b.blk rfl).1, ?_⟩
            refine own_get hrw2 ?_
            rw [List.getElem?_map, List.getElem?_eq_getElem (by rw [hln]; exact hq)]
            simp [List.getD, hln, hq]
          obtain ⟨gw, cw, hwr, hcw, hmw, _, _⟩ := HR5.out W1 (Below.refl _ _)
          unfold maxLen at hmw
          have HYES : Hid (∀ w3 v5 W5, Below W1.heap.size W1 w3 → W5.ownsRow B 108 2 v5 ((ks.getD (k % ks.length) wk0).list.length + 1) ((ks.getD (k % ks.length) wk0).list.flatMap tkC ++ tkC k) → (w3.alloc (Obj.cells #[.int .i64 (k : Int), .int .i64 ((k : Int) + 1)] 108)).grownBy W5 (wl1 (k % ks.length)).ownBlock → (v5.ownBlock = (wl1 (k % ks.length)).ownBlock ∨ v5.ownBlock = some (w3.alloc (Obj.cells #[.int .i64 (k : Int), .int .i64 ((k : Int) + 1)] 108)).heap.size) → Laid w (W5.setCell ⟨G.wb.getD (k % ks.length) 0, 1, none⟩ v5) ρ B N lb G L (layTo L.fan (fun i => (L.lev i).length) L.wks (k + 1)) ∧ W5.cell? ⟨G.wb.getD (k % ks.length) 0, 1, none⟩ = some (wl1 (k % ks.length)) ∧ W5.frozen? ⟨G.wb.getD (k % ks.length) 0, 1, none⟩ = false) := by
            intro w3 v5 W5 hb3 o5 g6 n5
            have hx3 := HX1.out.below hb3
            have hb13 := HB1.out.trans (hb3.mono HB1.out.size)
            rw [HNX.out]
            refine ⟨Laid.trans (HST.out.below hb13) HKP.out (HSM.out.trans (by omega) HKP.out (Same.below HLT1.out (by omega) hb13)) (lay_round hx3 (Nat.le_trans hBr hb13.size) hlt HF.out HH.out o5 g6 n5), ?_⟩
            have hne : some (G.wb.getD (k % ks.length) 0) ≠ (wl1 (k % ks.length)).ownBlock := fun e => by
              obtain ⟨_, _, D, hD⟩ := own_block (hx3.k.lst _ hq) e
              exact cells_ne (hx3.k.one _ hq) hD (by decide) rfl
            exact cell_of (j := 1) (beside g6 (hx3.k.one _ hq) hne) rfl
          have HOW : Hid (∀ w3, Below W1.heap.size W1 w3 → w3.ownsRow B 108 2 (wl1 (k % ks.length)) (ks.getD (k % ks.length) wk0).list.length ((ks.getD (k % ks.length) wk0).list.flatMap tkC) ∧ w3.cell? ⟨G.wb.getD (k % ks.length) 0, 1, none⟩ = some (wl1 (k % ks.length)) ∧ w3.cell? ⟨wr.heap.size, 0, none⟩ = some (.int .i64 (k : Int)) ∧ w3.cell? ⟨wr.heap.size, 1, none⟩ = some (.int .i64 ((k : Int) + 1)) ∧ B ≤ w3.heap.size) := by
            intro w3 hb3
            have hx3 := HX1.out.below hb3
            have ht3 := (hb3.block _ (Array.getElem?_eq_some_iff.1 HTB.out).1).trans HTB.out
            have hb13 := HB1.out.trans (hb3.mono HB1.out.size)
            exact ⟨hx3.k.lst _ hq, (cell_of (j := 1) (hx3.k.one _ hq) rfl).1, (cell_of (j := 0) ht3 rfl).1, (cell_of (j := 1) ht3 rfl).1, Nat.le_trans hBr hb13.size⟩
          obtain ⟨al, cl, hwl, hcl, hml, hl5⟩ := list_grow_own HX1.out hq
          have hwl2 : wl1 (k % ks.length) = .slice al (ks.getD (k % ks.length) wk0).list.length cl := hwl
          rw [hwl2] at HYES HOW
          have hl5' : (ks.getD (k % ks.length) wk0).list.length ≤ 5 := hl5
          have hcl' : (ks.getD (k % ks.length) wk0).list.length ≤ cl := hcl
          unfold maxLen at hml
          clear hwl hwl2 HX1 HST HKP hl5 hcl HNX HFIN HB1
          generalize hnk : (L.lev k).length = nk at *
          generalize (ks.getD (k % ks.length) wk0).list.flatMap tkC = xs at *
          generalize (ks.getD (k % ks.length) wk0).list.length = ln at *
          generalize hkk : layTo L.fan (fun i => (L.lev i).length) L.wks (k + 1) = kk at *
          have HKK := hide hkk
          clear hkk
          generalize G.wb.getD (k % ks.length) 0 = wbq at *
          have hrem : (k : Int) % (ks.length : Int) = ((k % ks.length : Nat) : Int) := by omega
          generalize hqq : k % ks.length = q at *
          generalize ks.length = nks at *
          rw [hwr] at HR5
          go_wp2_with fail
          rw [← HW1.out]
          refine wp_region_quiet_below (by kernel_rfl) (by kernel_rfl) ?_
          repeat (go_big_quiet_step (first | (go_at_call 92; exact CH.out _ _)))
          refine wpQuiet_nil ?_
          intro _ hw'
          obtain ⟨⟨dq, osq⟩, hw''⟩ := hw'
          subst hw''
          have hb2 := below_regrown W1 dq osq
          generalize Sort.grow (redrawn W1 dq) osq = w2 at *
          obtain ⟨_, _, hsl, _, _, c14, cq⟩ := HR5.out w2 hb2
          injection hsl with hsl1 hsl2 hsl3
          injection hsl1 with hsl1
          injection hsl1 with hsl1
          subst hsl1 hsl3
          have HB2 := hide hb2
          clear hb2 e8 e1 r0 r1 CH
          go_wp2_with fail
          go_quiet (fail)
          have hb3 : Below W1.heap.size W1 (w2.drewN nq) := HB2.out.trans ((drewG w2 nq).mono HB2.out.size)
          generalize w2.drewN nq = w3 at *
          obtain ⟨ho3, c1, t0, t1, hB3⟩ := HOW.out w3 hb3
          have HO3 := hide ho3
          have HB3 := hide hb3
          have b3 := below_allocG w3 (Obj.cells #[.int .i64 (k : Int), .int .i64 ((k : Int) + 1)] 108)
          have c1' := (b3.cell (p := ⟨wbq, 1, none⟩) (World.block_lt_of_cell? _ _ c1)).trans c1
          clear ho3 hb3 b3 c14 cq
          go_wp2_with fail
          go_region_law (refine step_own_at _ rfl _ _ 106 rfl B 108 i0 (.agg #[.int .i64 0, .int .i64 0]) 2 16 Tryz.underlying106 hi0 hz0 hz1 hz2 rfl (by decide) _ _ _ rfl (by exact HO3.out.alloc _) ⟨w3.heap.size, 0, none⟩ 1 1 [.int .i64 (k : Int), .int .i64 ((k : Int) + 1)] rfl rfl (by exact cells_new w3.drew _ _ _ rfl) (by intro u hu; simp at hu; rcases hu with rfl | rfl <;> rfl) (by unfold maxLen; omega) (by omega) (by simp; omega) ?_; intro v5 W5 o5 g5 n5; obtain ⟨a5, c5, rfl, _, _⟩ := own_slice o5; have g6 : (w3.alloc (Obj.cells #[.int .i64 (k : Int), .int .i64 ((k : Int) + 1)] 108)).grownBy W5 (Value.slice al ln cl).ownBlock := ⟨g5.os, g5.tape, g5.output, g5.size, g5.block⟩; obtain ⟨hla, fb, ff⟩ := HYES.out w3 _ W5 HB3.out o5 g6 n5; have HLA := hide hla; clear o5 g5 g6 n5 hla)
          all_goals (
            go_wp2
            go_roundw
            case rel => exact ⟨k + 1, by omega, by go_num, by rw [HKK.out]; exact HLA.out⟩
            case measure => simp [intOf]; omega)
        · have HNO : Hid (layTo L.fan (fun i => (L.lev i).length) L.wks (k + 1) = ks) := by show _ = _; rw [HNX.out, layOne_no (Or.inr hht)]
          rw [HHT.out] at hht
          have CH2 : Hid (∀ d os, _) := fun d os => CH.out d os
          simp only [hht] at CH
          clear hht CH2
          clear HX1
          generalize (L.lev k).length = nk at *
          generalize L.fan = fan at *
          go_wp2_with fail
          rw [← HW1.out]
          refine wp_region_quiet_below (by kernel_rfl) (by kernel_rfl) ?_
          repeat (go_big_quiet_step (first | (go_at_call 92; exact CH.out _ _)))
          refine wpQuiet_nil ?_
          intro _ hw'
          obtain ⟨⟨dq, osq⟩, hw''⟩ := hw'
          subst hw''
          go_wp2
          go_roundw
          case rel => exact ⟨k + 1, by omega, by go_num, by rw [HNO.out]; exact HFIN.out _ _⟩
          case measure => simp [intOf]; omega
      · have HNO : Hid (layTo L.fan (fun i => (L.lev i).length) L.wks (k + 1) = ks) := by show _ = _; rw [HNX.out, layOne_no (Or.inl hf)]
        have hd : ¬ (L.fan : Int) ≤ ((L.lev k).length : Int) := by omega
        have hd2 : decide ((L.fan : Int) ≤ ((L.lev k).length : Int)) = false := decide_eq_false hd
        clear HX1
        generalize (L.lev k).length = nk at *
        generalize L.fan = fan at *
        go_wp2_with fail
        rw [← HW1.out]
        refine wp_region_quiet_below (by kernel_rfl) (by kernel_rfl) ?_
        repeat (go_big_quiet_step (first | (go_at_call 92; exact CH.out _ _)))
        refine wpQuiet_nil ?_
        intro _ hw'
        obtain ⟨⟨dq, osq⟩, hw''⟩ := hw'
        subst hw''
        go_wp2
        go_roundw
        case rel => exact ⟨k + 1, by omega, by go_num, by rw [HNO.out]; exact HFIN.out _ _⟩
        case measure => simp [intOf]; omega
    · have hke : k = 5 := by omega
      subst hke
      go_wp2
      go_end0
      exact ⟨rfl, hL⟩
end Go.Proofs.YtkncboinfcnklabGreatDoor

namespace Go.Proofs.YtkncboinfcnklabGreatDoor
open Go.RowKit Go.Deep Go.Proofs.YtkncboinfcnklabGreatDoor.Mth

/-- The memory's blocks become a segment's. -/
def rel34 (ρ : Nat → Nat) (g : Nat) : Nat := if ρ g = 3 then 4 else ρ g
theorem rel34_ne {ρ : Nat → Nat} {g : Nat} (h : ρ g ≠ 3) : rel34 ρ g = ρ g := if_neg h
theorem LogAt.toSeg {w : World} {ρ : Nat → Nat} {B N lb : Nat} {G : Gh} {L : Lg} (h : LogAt w ρ B N lb G L) : LogX w (rel34 ρ) B N lb G L ∧ (∀ k, ownS G.ms G.mm G.me k → rel34 ρ k = 4) ∧ (∀ i, i < 6 → ¬ G.ms ∈ G.bs i) ∧ LStp w w ρ (rel34 ρ) := by
  refine ⟨⟨LHd.role (ρ := ρ) h.x.b (fun g q => (rel34_ne (by omega)).trans q), LJ.role (ρ := ρ) h.x.j (fun g q => (rel34_ne (by omega)).trans q), LV.role (ρ := ρ) h.x.v (fun g q => rel34_ne (by rcases q with q | ⟨i, _, q⟩ <;> omega)), LW.role (ρ := ρ) h.x.k (fun g q => rel34_ne (by rcases q with q | ⟨i, _, q⟩ <;> omega)), LT.role (ρ := ρ) h.x.t (fun g q => (rel34_ne (by omega)).trans q), fun k q => h.x.lt k (fun e => ?_)⟩, fun k q => if_pos (h.m.rl k q), fun i hi q => ?_, Tch.refl _ _, fun k _ e => ?_⟩
  · exact q (by rw [rel34_ne (by omega)]; exact e)
  · obtain ⟨j, hj, e⟩ := List.mem_iff_getElem.1 q
    have h4 := h.x.v.rs i hi j hj G.ms (Or.inl (by simp [List.getD, hj, e]))
    have h3 := h.m.rl G.ms (Or.inl rfl)
    omega
  · rw [rel34_ne (by omega)]; exact e

/-- A new memory. -/
theorem LogX.newMem {w w' : World} {ρ : Nat → Nat} {B N lb : Nat} {G : Gh} {L : Lg} (h : LogX w ρ B N lb G L) (hB : B ≤ w.heap.size) {s mb : Nat} {es : List Ent} {ev : Value} (hn : NewSeg w w' B s es ev mb) :
    ∃ ρ', LogAt (w'.setCell ⟨lb, 7, none⟩ (ptrV s)) ρ' B N lb { G with ms := s, mm := mb, me := ev } { L with mem := es } ∧ LStp w (w'.setCell ⟨lb, 7, none⟩ (ptrV s)) ρ ρ' := by
  have hx := h.below hn.bel
  have hk := ext_keep (P := ownS s mb ev) (c := 3) h.lt
  have xb := LHd.role (ρ := ρ) hx.b (fun g q => (hk g (by omega)).trans q)
  have xj := LJ.role (ρ := ρ) hx.j (fun g q => (hk g (by omega)).trans q)
  have xv := LV.role (ρ := ρ) hx.v (fun g q => hk g (by rcases q with q | ⟨i, _, q⟩ <;> omega))
  have xk := LW.role (ρ := ρ) hx.k (fun g q => hk g (by rcases q with q | ⟨i, _, q⟩ <;> omega))
  have xt := LT.role (ρ := ρ) hx.t (fun g q => (hk g (by omega)).trans q)
  have hlt := ext_lt (P := ownS s mb ev) (c := 3) h.lt hn.bel.size hB (fun k q => (hn.seg.ownLt q).1)
  obtain ⟨r1, r2⟩ := head_set (N := N) (G' := { G with ms := s, mm := mb, me := ev }) (L' := { L with mem := es }) xb hlt 7 (ptrV s) rfl ⟨xj.j, xj.rl⟩ ⟨xv.row, xv.len, xv.seg, xv.rr, xv.rs⟩ ⟨xk.row, xk.len, xk.one, xk.lst, xk.ok, xk.few, xk.ge, xk.rw, xk.rb, xk.rl⟩ ⟨xt.map, xt.rl, xt.ge⟩
  have hlbw : lb < w.heap.size := (h.lt lb (by rw [h.b.rl]; omega)).1
  refine ⟨_, ⟨r1, ⟨hn.seg.same (fun g q => set_other (fun e => ?_)), fun k q => ext_new (hn.new k q) q⟩⟩, (⟨tch_below hn.bel, fun k hk2 e => by rw [ext_old hk2]; exact e⟩ : LStp w w' ρ _).trans r2⟩
  subst e
  rcases q with q | q
  · have := hn.new g q
    omega
  · exact notN xb.blk (by decide) q

theorem Laid.log {w w' : World} {ρ : Nat → Nat} {B N lb : Nat} {G : Gh} {L : Lg} {ks : List Wk} (h : LM w ρ B G L) (hl : Laid w w' ρ B N lb G L ks) : ∃ ρ' wl', LogAt w' ρ' B N lb { G with wl := wl' } { L with wks := ks } ∧ LStp w w' ρ ρ' := by
  obtain ⟨⟨ρ', wl', r1, r2, r3, r4⟩⟩ := hl
  have xm := LM.role (ρ' := ρ') (h.same r4) (fun g q => (r3 g (by omega)).trans q)
  exact ⟨ρ', wl', ⟨r1, ⟨xm.seg, xm.rl⟩⟩, r2⟩

/-- A log behind a text was laid down. -/
def Lg.roll (L : Lg) : Lg := { L with lev := fun j => if j = 0 then L.lev j ++ [L.mem] else L.lev j, mem := [], wks := layTo L.fan (fun i => (if i = 0 then L.lev i ++ [L.mem] else L.lev i).length) L.wks 5 }
def Lg.more (L : Lg) (e : Ent) : Lg := { L with mem := L.mem ++ [e] }
def Lg.app (L : Lg) (s : ByteArray) : Lg := { (if L.memory ≤ L.mem.length then L.roll else L).more ⟨L.count, L.clock, s⟩ with count := L.count + 1 }
/-- What is the same of where a log lies. -/
structure GSame (G G' : Gh) : Prop where
  jb : G'.jb = G.jb
  db : G'.db = G.db
  sb : G'.sb = G.sb
theorem GSame.trans {G G1 G2 : Gh} (h1 : GSame G G1) (h2 : GSame G1 G2) : GSame G G2 := ⟨h2.jb.trans h1.jb, h2.db.trans h1.db, h2.sb.trans h1.sb⟩
end Go.Proofs.YtkncboinfcnklabGreatDoor
