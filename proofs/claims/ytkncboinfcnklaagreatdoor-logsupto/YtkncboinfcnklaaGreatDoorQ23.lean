import Derived.Test.YtkncboinfcnklaaGreatDoorQ22
namespace Go.Proofs.YtkncboinfcnklaaGreatDoor.Rl
open Go.RowKit Go.Deep Go.Shelf Go.Proofs.YtkncboinfcnklaaGreatDoor.Mth

theorem Tryz.infoRow : (Tryz.prog.info? 57).map (fun i => (i.zero, i.size, i.bytes)) = some (some (.slice none 0 0), 1, 24) := by kernel_rfl
theorem Tryz.infoWkr : (Tryz.prog.info? 304).map (fun i => (i.zero, i.size, i.bytes)) = some (some (.agg #[.slice none 0 0, .int .i64 0, .int .i64 0]), 3, 40) := by kernel_rfl
theorem Tryz.infoTail : (Tryz.prog.info? 341).map (fun i => (i.zero, i.size, i.bytes)) = some (some (.agg #[.int .i64 0, .string ⟨#[]⟩, .int .i64 0]), 3, 32) := by kernel_rfl
theorem Tryz.infoI : (Tryz.prog.info? 3).map (fun i => (i.zero, i.size, i.bytes)) = some (some (.int .i64 0), 1, 8) := by kernel_rfl
theorem Tryz.infoKept : (Tryz.prog.info? 228).map (fun i => (i.zero, i.size, i.bytes)) = some (some (.agg #[.int .i64 0, .slice none 0 0]), 2, 32) := by kernel_rfl
theorem Tryz.sizeLog : (Tryz.prog.info? 234).map (·.size) = some 20 := by kernel_rfl

def zrC : Array Value := #[.int .i64 0, .int .i64 0, .int .i64 0, .int .i64 0, .int .i64 0, .int .i64 0, .int .i64 0, .slice none 0 0, .slice none 0 0, .slice none 0 0, .slice none 0 0, .slice none 0 0, .slice none 0 0, .slice none 0 0, .slice none 0 0, .slice none 0 0, .slice none 0 0, .int .i64 0, .bool false, .slice none 0 0]
theorem rfC_lv (V : Rv) (L : Lg) {k : Nat} (hk : k < 6) : (rfC V L)[9 + k]? = some (V.lv k) := by
  rcases (show k = 0 ∨ k = 1 ∨ k = 2 ∨ k = 3 ∨ k = 4 ∨ k = 5 by omega) with rfl | rfl | rfl | rfl | rfl | rfl <;> rfl
theorem rfC_set (V : Rv) (L : Lg) (v : Value) {k : Nat} (hk : k < 6) : (rfC V L).setIfInBounds (9 + k) v = rfC { V with lv := fun j => if j = k then v else V.lv j } L := by
  rcases (show k = 0 ∨ k = 1 ∨ k = 2 ∨ k = 3 ∨ k = 4 ∨ k = 5 by omega) with rfl | rfl | rfl | rfl | rfl | rfl <;> rfl

/-- The three blocks of a copy under way. -/
structure CpX (w W : World) (n : Nat) (C X : Array Value) : Prop where
  bel : Below n w W
  src : W.heap[n]? = some (Obj.cells C 234 (0, 0))
  res : W.heap[n + 1]? = some (Obj.cells zrC 234 (0, 0))
  x : W.heap[n + 1 + 1]? = some (Obj.cells X 234 (0, 0))
theorem CpX.sz {w W : World} {n : Nat} {C X : Array Value} (h : CpX w W n C X) : n + 1 + 1 < W.heap.size := (Array.getElem?_eq_some_iff.1 h.x).1
theorem CpX.below {w W W' : World} {n : Nat} {C X : Array Value} (h : CpX w W n C X) (hb : Below W.heap.size W W') : CpX w W' n C X :=
  ⟨h.bel.trans (hb.mono (by have := h.sz; omega)), (hb.block _ (by have := h.sz; omega)).trans h.src, (hb.block _ (by have := h.sz; omega)).trans h.res, (hb.block _ h.sz).trans h.x⟩
theorem CpX.set {w W : World} {n : Nat} {C X : Array Value} (h : CpX w W n C X) (j : Nat) (v : Value) : CpX w (W.setCell ⟨n + 1 + 1, j, none⟩ v) n C (X.setIfInBounds j v) :=
  ⟨below_set h.bel (by omega), (set_other (by omega)).trans h.src, (set_other (by omega)).trans h.res, set_blk h.x⟩
theorem CpX.own {w W : World} {n : Nat} {C X : Array Value} (h : CpX w W n C X) {B : Nat} {e : TypeId} {sz : Nat} {v : Value} {m : Nat} {xs : List Value} (ho : W.ownsRow B e sz v m xs) (he : 234 ≠ e) (j : Nat) (u : Value) : (W.setCell ⟨n + 1 + 1, j, none⟩ u).ownsRow B e sz v m xs := own_set_other ho h.x he

/-- A copy under way: k levels are done. -/
structure CpS (w W : World) (n : Nat) (C : Array Value) (V V1 : Rv) (L : Lg) (all : List Ent) (k : Nat) : Prop where
  x : CpX w W n C (rfC V1 L)
  wv : V1.wv = V.wv
  tv : V1.tv = V.tv
  sv : V1.sv = V.sv
  rd : V1.rd = V.rd
  all : W.ownsRow n 66 3 V1.av all.length (all.flatMap eC)
  mem : W.ownsRow n 66 3 V1.mv L.mem.length (L.mem.flatMap eC)
  lev : ∀ i, i < k → W.ownsRow n 57 1 (V1.lv i) (L.lev i).length ((List.range (L.lev i).length).map (V.sv i))
  old : ∀ i, k ≤ i → V1.lv i = V.lv i
  am : ∀ g, some g = V1.av.ownBlock → some g ≠ V1.mv.ownBlock
  ld : ∀ i j, i < k → j < k → i ≠ j → ∀ g, some g = (V1.lv i).ownBlock → some g ≠ (V1.lv j).ownBlock
theorem CpS.next {w W W5 : World} {n : Nat} {C : Array Value} {V V1 : Rv} {L : Lg} {all : List Ent} {k : Nat} {v5 : Value} (h : CpS w W n C V V1 L all k) (hk : k < 6) (hb : Below (W.setCell ⟨n + 1 + 1, 9 + k, none⟩ (.slice none 0 0)).heap.size (W.setCell ⟨n + 1 + 1, 9 + k, none⟩ (.slice none 0 0)) W5)
    (ho : W5.ownsRow n 57 1 v5 (L.lev k).length ((List.range (L.lev k).length).map (V.sv k))) (hn : v5.ownBlock = none ∨ v5.ownBlock = some (W.setCell ⟨n + 1 + 1, 9 + k, none⟩ (.slice none 0 0)).heap.size) :
    CpS w (W5.setCell ⟨n + 1 + 1, 9 + k, none⟩ v5) n C V { V1 with lv := fun j => if j = k then v5 else V1.lv j } L all (k + 1) := by
  have hx1 := h.x.set (9 + k) (.slice none 0 0)
  have hx2 := hx1.below hb
  have hx3 := hx2.set (9 + k) v5
  have hcc : ((rfC V1 L).setIfInBounds (9 + k) (.slice none 0 0)).setIfInBounds (9 + k) v5 = rfC { V1 with lv := fun j => if j = k then v5 else V1.lv j } L := by
    rw [rfC_set _ _ _ hk, rfC_set _ _ _ hk]
    congr 1
    simp only [Rv.mk.injEq, true_and, and_true]
    funext j
    by_cases hj : j = k <;> simp [hj]
  rw [hcc] at hx3
  have kp : ∀ {B : Nat} {e : TypeId} {sz : Nat} {v : Value} {m : Nat} {xs : List Value}, 234 ≠ e → W.ownsRow B e sz v m xs → (W5.setCell ⟨n + 1 + 1, 9 + k, none⟩ v5).ownsRow B e sz v m xs := fun he ho => hx2.own (own_belowR (h.x.own ho he _ _) hb) he _ _
  have hsz : (W.setCell ⟨n + 1 + 1, 9 + k, none⟩ (.slice none 0 0)).heap.size = W.heap.size := by simp
  refine ⟨hx3, h.wv, h.tv, h.sv, h.rd, kp (by decide) h.all, kp (by decide) h.mem, fun i hi => ?_, fun i hi => ?_, h.am, fun i j hi hj hne g hg => ?_⟩
  · by_cases q : i = k
    · subst q
      simp only [if_pos]
      exact hx2.own ho (by decide) _ _
    · simp only [if_neg q]
      exact kp (by decide) (h.lev i (by omega))
  · simp only [if_neg (show i ≠ k by omega)]
    exact h.old i (by omega)
  · have new : ∀ i, i < k → ∀ g, some g = (V1.lv i).ownBlock → some g ≠ v5.ownBlock := fun i hi g hg q => by
      rcases hn with hn | hn
      · rw [hn] at q; cases q
      · rw [hn, hsz] at q
        injection q with q
        have := (own_block (h.lev i hi) hg).2.1
        omega
    by_cases qi : i = k
    · subst qi
      simp only [if_pos, if_neg (show j ≠ i by omega)] at hg ⊢
      exact fun q => new j (by omega) g q hg
    · by_cases qj : j = k
      · subst qj
        simp only [if_pos, if_neg qi] at hg ⊢
        exact new i (by omega) g hg
      · simp only [if_neg qi, if_neg qj] at hg ⊢
        exact h.ld i j (by omega) (by omega) hne g hg

/-- A copy under way: m workers are done. -/
structure CpW (w W : World) (n : Nat) (C : Array Value) (V V1 : Rv) (L : Lg) (all : List Ent) (m : Nat) : Prop where
  x : CpX w W n C (rfC V1 L)
  tv : V1.tv = V.tv
  sv : V1.sv = V.sv
  rd : V1.rd = V.rd
  all : W.ownsRow n 66 3 V1.av all.length (all.flatMap eC)
  mem : W.ownsRow n 66 3 V1.mv L.mem.length (L.mem.flatMap eC)
  lev : ∀ i, i < 6 → W.ownsRow n 57 1 (V1.lv i) (L.lev i).length ((List.range (L.lev i).length).map (V.sv i))
  am : ∀ g, some g = V1.av.ownBlock → some g ≠ V1.mv.ownBlock
  ld : ∀ i j, i < 6 → j < 6 → i ≠ j → ∀ g, some g = (V1.lv i).ownBlock → some g ≠ (V1.lv j).ownBlock
  row : W.ownsRow n 304 3 V1.wv m ((List.range m).flatMap (fun q => wkR (L.wks.getD q wk0) (V1.wl q) (V.rd q)))
  lst : ∀ q, q < m → W.ownsRow n 3 1 (V1.wl q) (L.wks.getD q wk0).list.length ((L.wks.getD q wk0).list.map iV)
  wd : ∀ p q, p < m → q < m → p ≠ q → ∀ g, some g = (V1.wl p).ownBlock → some g ≠ (V1.wl q).ownBlock
theorem CpS.toW {w W : World} {n : Nat} {C : Array Value} {V V1 : Rv} {L : Lg} {all : List Ent} (h : CpS w W n C V V1 L all 6) : CpW w (W.setCell ⟨n + 1 + 1, 15, none⟩ (.slice none 0 0)) n C V { V1 with wv := .slice none 0 0 } L all 0 :=
  ⟨h.x.set 15 _, h.tv, h.sv, h.rd, h.x.own h.all (by decide) _ _, h.x.own h.mem (by decide) _ _, fun i hi => h.x.own (h.lev i hi) (by decide) _ _, h.am, h.ld, World.ownsRow_nil _ _ _ _, fun q hq => absurd hq (Nat.not_lt_zero _), fun p q hp => absurd hp (Nat.not_lt_zero _)⟩
theorem wk_one {W W3 : World} {r1 r2 : Value} (g : (W.alloc (Obj.cells #[.slice none 0 0, r1, r2] 304)).grownBy W3 none) : W3.heap[W.heap.size]? = some (Obj.cells #[.slice none 0 0, r1, r2] 304 (0, 0)) ∧ Below W.heap.size W W3 ∧ W.heap.size + 1 ≤ W3.heap.size := by
  have b3 := below_grown0 g
  have e1 := new_blk W #[.slice none 0 0, r1, r2] 304
  have b1 := below_allocG W (Obj.cells #[.slice none 0 0, r1, r2] 304)
  have hs : (W.alloc (Obj.cells #[.slice none 0 0, r1, r2] 304)).heap.size = W.heap.size + 1 := by simp
  refine ⟨(b3.block _ (by rw [hs]; omega)).trans e1, b1.trans (b3.mono (by rw [hs]; omega)), by have := b3.size; rw [hs] at this; exact this⟩
theorem CpW.next {w W W3 W6 : World} {n : Nat} {C : Array Value} {V V1 : Rv} {L : Lg} {all : List Ent} {m : Nat} {v3 v6 : Value} (h : CpW w W n C V V1 L all m)
    (g3 : (W.alloc (Obj.cells #[.slice none 0 0, .int .i64 (rnV (L.wks.getD m wk0).runs), .int .i64 (V.rd m)] 304)).grownBy W3 none)
    (o3 : W3.ownsRow n 3 1 v3 (L.wks.getD m wk0).list.length ((L.wks.getD m wk0).list.map iV)) (n3 : v3.ownBlock = none ∨ v3.ownBlock = some (W.alloc (Obj.cells #[.slice none 0 0, .int .i64 (rnV (L.wks.getD m wk0).runs), .int .i64 (V.rd m)] 304)).heap.size)
    (g6 : ((W3.setCell ⟨W.heap.size, 0, none⟩ v3).alloc (Obj.cells #[v3, .int .i64 (rnV (L.wks.getD m wk0).runs), .int .i64 (V.rd m)] 304)).grownBy W6 V1.wv.ownBlock)
    (o6 : W6.ownsRow n 304 3 v6 (m + 1) ((List.range m).flatMap (fun q => wkR (L.wks.getD q wk0) (V1.wl q) (V.rd q)) ++ [v3, .int .i64 (rnV (L.wks.getD m wk0).runs), .int .i64 (V.rd m)])) :
    (W6.heap[n + 1 + 1]? = some (Obj.cells (rfC V1 L) 234 (0, 0))) ∧ CpW w (W6.setCell ⟨n + 1 + 1, 15, none⟩ v6) n C V { V1 with wv := v6, wl := fun q => if q = m then v3 else V1.wl q } L all (m + 1) := by
  obtain ⟨e3, b3, s3⟩ := wk_one g3
  have b4 : Below W.heap.size W (W3.setCell ⟨W.heap.size, 0, none⟩ v3) := below_set b3 (Nat.le_refl _)
  have b5 : Below W.heap.size W ((W3.setCell ⟨W.heap.size, 0, none⟩ v3).alloc (Obj.cells #[v3, .int .i64 (rnV (L.wks.getD m wk0).runs), .int .i64 (V.rd m)] 304)) := b4.trans ((below_allocG _ _).mono b4.size)
  have hn := h.x.sz
  have t6 : Tch (fun k => some k = V1.wv.ownBlock) W W6 := ⟨g6.os.trans b5.os, g6.tape.trans b5.tape, g6.output.trans b5.output, Nat.le_trans b5.size g6.size, fun k hk hq => (g6.block k (Nat.lt_of_lt_of_le hk b5.size) hq).trans (b5.block k hk)⟩
  have ne : ∀ k C' t, W.heap[k]? = some (Obj.cells C' t (0, 0)) → t ≠ 304 → ¬ some k = V1.wv.ownBlock := fun k C' t hk ht q => by
    obtain ⟨_, _, D, hD⟩ := own_block h.row q
    exact ht (cells_ty hk hD)
  have x6 : CpX w W6 n C (rfC V1 L) := ⟨⟨t6.os.trans h.x.bel.os, t6.tape.trans h.x.bel.tape, t6.output.trans h.x.bel.output, Nat.le_trans h.x.bel.size t6.size, fun k hk => (t6.block k (by omega) (fun q => by have := (own_block h.row q).1; omega)).trans (h.x.bel.block k hk)⟩, (t6.block _ (by omega) (ne _ _ _ h.x.src (by decide))).trans h.x.src, (t6.block _ (by omega) (ne _ _ _ h.x.res (by decide))).trans h.x.res, (t6.block _ hn (ne _ _ _ h.x.x (by decide))).trans h.x.x⟩
  have kp : ∀ {B : Nat} {e : TypeId} {sz : Nat} {v : Value} {k : Nat} {xs : List Value}, 234 ≠ e → e ≠ 304 → W.ownsRow B e sz v k xs → (W6.setCell ⟨n + 1 + 1, 15, none⟩ v6).ownsRow B e sz v k xs := fun he he2 ho => x6.own (own_same ho (fun g hg => t6.block g (own_block ho hg).2.1 (by obtain ⟨_, _, D, hD⟩ := own_block ho hg; exact ne _ _ _ hD he2))) he _ _
  have l6 : (W6.setCell ⟨n + 1 + 1, 15, none⟩ v6).ownsRow n 3 1 v3 (L.wks.getD m wk0).list.length ((L.wks.getD m wk0).list.map iV) := by
    have o4 := own_set_other (o := 0) (y := v3) o3 e3 (by decide)
    have o5 := own_belowR o4 (below_allocG _ (Obj.cells #[v3, .int .i64 (rnV (L.wks.getD m wk0).runs), .int .i64 (V.rd m)] 304))
    refine x6.own (own_same o5 (fun g hg => g6.block g (own_block o5 hg).2.1 (fun q => ?_))) (by decide) _ _
    obtain ⟨_, hg1, D, hD⟩ := own_block o5 hg
    obtain ⟨_, hg2, D', hD'⟩ := own_block h.row q
    rw [b5.block g hg2, hD'] at hD
    injection hD with hD
    injection hD with _ hD _
    exact absurd hD (by decide)
  have new : ∀ p, p < m → ∀ g, some g = (V1.wl p).ownBlock → some g ≠ v3.ownBlock := fun p hp g hg q => by
    rcases n3 with n3 | n3
    · rw [n3] at q; cases q
    · rw [n3] at q
      injection q with q
      have := (own_block (h.lst p hp) hg).2.1
      simp at q
      omega
  refine ⟨x6.x, x6.set 15 v6, h.tv, h.sv, h.rd, kp (by decide) (by decide) h.all, kp (by decide) (by decide) h.mem, fun i hi => kp (by decide) (by decide) (h.lev i hi), h.am, h.ld, ?_, fun q hq => ?_, fun p q hp hq hne g hg => ?_⟩
  · refine x6.own ?_ (by decide) _ _
    rw [List.range_succ, List.flatMap_append]
    have e : (List.range m).flatMap (fun q => wkR (L.wks.getD q wk0) (if q = m then v3 else V1.wl q) (V.rd q)) = (List.range m).flatMap (fun q => wkR (L.wks.getD q wk0) (V1.wl q) (V.rd q)) := by
      rw [List.flatMap_def, List.flatMap_def]
      congr 1
      refine List.map_congr_left (fun q hq => ?_)
      rw [if_neg (by have := List.mem_range.1 hq; omega)]
    show W6.ownsRow n 304 3 v6 (m + 1) ((List.range m).flatMap (fun q => wkR (L.wks.getD q wk0) (if q = m then v3 else V1.wl q) (V.rd q)) ++ _)
    rw [e]
    simpa [wkR] using o6
  · by_cases q0 : q = m
    · subst q0
      simp only [if_pos]
      exact l6
    · simp only [if_neg q0]
      exact kp (by decide) (by decide) (h.lst q (by omega))
  · by_cases qp : p = m
    · subst qp
      simp only [if_pos, if_neg (show q ≠ p by omega)] at hg ⊢
      exact fun e => new q (by omega) g e hg
    · by_cases qq : q = m
      · subst qq
        simp only [if_pos, if_neg qp] at hg ⊢
        exact new p (by omega) g hg
      · simp only [if_neg qp, if_neg qq] at hg ⊢
        exact h.wd p q (by omega) (by omega) hne g hg

theorem row_other {W : World} {b g : Nat} {D : Array Value} (h : g ≠ b) : (W.setRow b D).heap[g]? = W.heap[g]? := by
  simp only [World.setRow, Array.getElem?_modify]
  rw [if_neg (fun e => h e.symm)]
theorem row_same {W : World} {b : Nat} {C D : Array Value} {t : TypeId} (h : W.heap[b]? = some (Obj.cells C t (0, 0))) : (W.setRow b D).heap[b]? = some (Obj.cells D t (0, 0)) := by
  simp [World.setRow, Array.getElem?_modify, h]
theorem own_row_other {W : World} {B : Nat} {e e' : TypeId} {sz : Nat} {v : Value} {n : Nat} {xs : List Value} {b : Nat} {C D : Array Value} {fr : Nat × Nat} (h : W.ownsRow B e sz v n xs) (hx : W.heap[b]? = some (Obj.cells C e' fr)) (hne : e' ≠ e) : (W.setRow b D).ownsRow B e sz v n xs :=
  own_same h (fun g hg => row_other (fun q => by
    obtain ⟨_, _, D', hD⟩ := own_block h hg
    rw [q, hx] at hD
    injection hD with hD
    injection hD with _ hD _
    exact hne hD))
/-- The tails too: the copy is done. -/
theorem CpW.fin {Z : Nat → Prop} {w W W2 : World} {n : Nat} {C : Array Value} {V V1 : Rv} {L : Lg} {all : List Ent} {ts : List Tl} {v4 : Value} (h : CpW w W n C V V1 L all L.wks.length) (hR : RfV Z 0 w V L all ts) (hn : w.heap.size = n) (hZ : ∀ g, Z g → g < n)
    (g2 : (W.setCell ⟨n + 1 + 1, 16, none⟩ (.slice none 0 0)).grownBy W2 none) (o2 : W2.ownsRow n 341 3 v4 ts.length (ts.flatMap tlC)) :
    W2.heap[n + 1 + 1]? = some (Obj.cells (rfC { V1 with tv := .slice none 0 0 } L) 234 (0, 0)) ∧ (CpX w (((W2.setCell ⟨n + 1 + 1, 16, none⟩ v4).setCell ⟨n + 1 + 1, 19, none⟩ (.slice none 0 0)).setCell ⟨n + 1 + 1, 19, none⟩ (.slice none 0 0)) n C (rfC { V1 with tv := v4 } L) ∧ ∀ W7, W7 = (((W2.setCell ⟨n + 1 + 1, 16, none⟩ v4).setCell ⟨n + 1 + 1, 19, none⟩ (.slice none 0 0)).setCell ⟨n + 1 + 1, 19, none⟩ (.slice none 0 0)).setRow (n + 1) (rfC { V1 with tv := v4 } L) → W7.heap[n + 1]? = some (Obj.cells (rfC { V1 with tv := v4 } L) 234 (0, 0)) ∧ RfV (fun g => Z g ∨ n ≤ g) n W7 { V1 with tv := v4 } L all ts ∧ RfD n { V1 with tv := v4 } L ∧ Below n w W7) := by
  have x1 := h.x.set 16 (.slice none 0 0)
  have b2 := below_grown0 g2
  have x2 := x1.below b2
  have x3 := x2.set 16 v4
  have x4 := x3.set 19 (.slice none 0 0)
  have x5 := x4.set 19 (.slice none 0 0)
  have kp : ∀ {B : Nat} {e : TypeId} {sz : Nat} {v : Value} {k : Nat} {xs : List Value}, 234 ≠ e → W2.ownsRow B e sz v k xs → ((((W2.setCell ⟨n + 1 + 1, 16, none⟩ v4).setCell ⟨n + 1 + 1, 19, none⟩ (.slice none 0 0)).setCell ⟨n + 1 + 1, 19, none⟩ (.slice none 0 0)).setRow (n + 1) (rfC { V1 with tv := v4 } L)).ownsRow B e sz v k xs := fun he ho => own_row_other (x4.own (x3.own (x2.own ho he _ _) he _ _) he _ _) x5.res he
  have kw : ∀ {B : Nat} {e : TypeId} {sz : Nat} {v : Value} {k : Nat} {xs : List Value}, 234 ≠ e → W.ownsRow B e sz v k xs → ((((W2.setCell ⟨n + 1 + 1, 16, none⟩ v4).setCell ⟨n + 1 + 1, 19, none⟩ (.slice none 0 0)).setCell ⟨n + 1 + 1, 19, none⟩ (.slice none 0 0)).setRow (n + 1) (rfC { V1 with tv := v4 } L)).ownsRow B e sz v k xs := fun he ho => kp he (own_belowR (h.x.own ho he _ _) b2)
  refine ⟨x2.x, x5, fun W7 hW7 => ?_⟩
  subst hW7
  refine ⟨row_same x5.res, ⟨kw (by decide) h.all, kw (by decide) h.mem, fun i hi => ?_, fun i hi j hj => ?_, fun i hi j hj g hg => ?_, kw (by decide) ?_, fun q hq => kw (by decide) (h.lst q hq), fun q hq i hi => ?_, kp (by decide) o2⟩, ⟨h.am, h.ld, h.wd, fun i hi j hj g hg => ?_⟩, ?_⟩
  · show World.ownsRow _ n _ 1 (V1.lv i) _ ((List.range (L.lev i).length).map (V1.sv i))
    rw [h.sv]
    exact kw (by decide) (h.lev i hi)
  · show World.ownsRow _ 0 _ 3 (V1.sv i j) _ _
    rw [h.sv]
    have ho := hR.seg i hi j hj
    exact kw (by decide) (own_same ho (fun g hg => h.x.bel.block g (by rw [← hn]; exact (own_block ho hg).2.1)))
  · refine Or.inl (hR.sz i hi j hj g ?_)
    rw [← h.sv]
    exact hg
  · show World.ownsRow _ n _ 3 V1.wv _ (wkRs L.wks V1.wl V1.rd)
    rw [h.rd]
    exact h.row
  · show V1.rd q = _
    rw [h.rd]
    exact hR.run q hq i hi
  · refine hZ g (hR.sz i hi j hj g ?_)
    rw [← h.sv]
    exact hg
  · exact ⟨x5.bel.os, x5.bel.tape, x5.bel.output, by simpa [World.setRow] using x5.bel.size, fun k hk => (row_other (by omega)).trans (x5.bel.block k hk)⟩
end Go.Proofs.YtkncboinfcnklaaGreatDoor.Rl

namespace Go.Proofs.YtkncboinfcnklaaGreatDoor.Rl
open Go.RowKit Go.Deep Go.Shelf Go.Proofs.YtkncboinfcnklaaGreatDoor.Mth

theorem ty_ne {W : World} {B : Nat} {e : TypeId} {sz : Nat} {v : Value} {n : Nat} {xs : List Value} (h : W.ownsRow B e sz v n xs) {k : Nat} {C : Array Value} {t : TypeId} (hk : W.heap[k]? = some (Obj.cells C t (0, 0))) (ht : t ≠ e) : some k ≠ v.ownBlock := fun q => by
  obtain ⟨_, _, D, hD⟩ := own_block h q
  exact ht (cells_ty hk hD)
def nxE (L : Lg) (all : List Ent) (s : ByteArray) : Ent := ⟨(all.length : Int), (L.clock : Int), s⟩
set_option maxRecDepth 100000 in
set_option maxHeartbeats 2000000 in
/-- What would be kept behind an Append. -/
theorem after_any {w : World} {B cb : Nat} {V : Rv} {L : Lg} {all : List Ent} (hb : w.heap[cb]? = some (Obj.cells (rfC V L) 234 (0, 0))) (h : w.ownsRow B 66 3 V.av all.length (all.flatMap eC)) (s : ByteArray) (hl : all.length ≤ 4194303) : Calls Tryz.prog 128 #[ptrV cb, .string s] w fun e w' => ∃ av', e = .returned (.agg #[.int .i64 (L.clock : Int), av']) ∧ w'.ownsRow w.heap.size 66 3 av' (all ++ [nxE L all s]).length ((all ++ [nxE L all s]).flatMap eC) ∧ Below w.heap.size w w' := by
  obtain ⟨i0, hi0, hz0, hz1, hz2⟩ := info_parts Tryz.info66
  obtain ⟨a, k, hav, _, _⟩ := own_slice h
  have hb1 := below_allocG w (Obj.cells #[.int .i64 0, .slice none 0 0] 228)
  have k1 := new_blk w #[.int .i64 0, .slice none 0 0] 228
  obtain ⟨W, hW⟩ : ∃ W, W = w.alloc (Obj.cells #[.int .i64 0, .slice none 0 0] 228) := ⟨_, rfl⟩
  rw [← hW] at hb1 k1
  have hcb : cb < w.heap.size := (Array.getElem?_eq_some_iff.1 hb).1
  have hbW := (hb1.block cb hcb).trans hb
  have c6 := (cell_of (j := 6) (u := .int .i64 (L.clock : Int)) hbW rfl).1
  have c7 := (cell_of (j := 7) (u := V.av) hbW rfl).1
  have hsW : W.heap.size = w.heap.size + 1 := by rw [hW]; simp
  have CK := hide (copyK_any (c := (L.clock : Int)) (own_belowR h hb1) (by omega))
  rw [hav] at c7 CK
  have HK1 := hide k1
  have HB1 := hide hb1
  have HW := hide hW
  have HSW := hide hsW
  have HCB := hide hcb
  have FIN : Hid (∀ (W2 : World) (v2 : Value), W2.ownsRow W.heap.size 66 3 v2 all.length (all.flatMap eC) → Below W.heap.size W W2 → ∀ W3, W3 = W2.alloc (Obj.cells #[.int .i64 (L.clock : Int), v2] 228) → W3.heap[W2.heap.size]? = some (Obj.cells #[.int .i64 (L.clock : Int), v2] 228 (0, 0)) ∧ (W3.alloc (Obj.cells #[.int .i64 (all.length : Int), .int .i64 (L.clock : Int), .string s] 66)).ownsRow w.heap.size 66 3 v2 all.length (all.flatMap eC) ∧ w.heap.size ≤ W3.heap.size ∧
      ∀ W5 v5, (W3.alloc (Obj.cells #[.int .i64 (all.length : Int), .int .i64 (L.clock : Int), .string s] 66)).grownBy W5 v2.ownBlock → W5.ownsRow w.heap.size 66 3 v5 (all.length + 1) (all.flatMap eC ++ [.int .i64 (all.length : Int), .int .i64 (L.clock : Int), .string s]) → W5.heap[W2.heap.size]? = some (Obj.cells #[.int .i64 (L.clock : Int), v2] 228 (0, 0)) ∧ W5.heap[w.heap.size]? = some (Obj.cells #[.int .i64 0, .slice none 0 0] 228 (0, 0)) ∧ ∀ W7, W7 = ((W5.setCell ⟨W2.heap.size, 1, none⟩ v5).setCell ⟨w.heap.size, 0, none⟩ (.int .i64 (L.clock : Int))).setCell ⟨w.heap.size, 1, none⟩ v5 → W7.heap[w.heap.size]? = some (Obj.cells #[.int .i64 (L.clock : Int), v5] 228 (0, 0)) ∧ W7.ownsRow w.heap.size 66 3 v5 (all ++ [nxE L all s]).length ((all ++ [nxE L all s]).flatMap eC) ∧ Below w.heap.size w W7) := by
    intro W2 v2 o2 b2 W3 hW3
    have hs := HSW.out
    have e3 : W3.heap[W2.heap.size]? = some (Obj.cells #[.int .i64 (L.clock : Int), v2] 228 (0, 0)) := by rw [hW3]; exact new_blk _ _ _
    have b3 : Below W2.heap.size W2 W3 := by rw [hW3]; exact below_allocG _ _
    have hs3 : W3.heap.size = W2.heap.size + 1 := by rw [hW3]; simp
    have hs2 := b2.size
    have o3 := own_belowR o2 b3
    have b4 := below_allocG W3 (Obj.cells #[.int .i64 (all.length : Int), .int .i64 (L.clock : Int), .string s] 66)
    have o4 := own_belowR o3 b4
    have z3 : W3.heap[w.heap.size]? = some (Obj.cells #[.int .i64 0, .slice none 0 0] 228 (0, 0)) := (b3.block _ (by omega)).trans ((b2.block _ (by omega)).trans HK1.out)
    refine ⟨e3, own_mono o4 (by omega), by omega, fun W5 v5 g5 o5 => ?_⟩
    have e5 : W5.heap[W2.heap.size]? = some (Obj.cells #[.int .i64 (L.clock : Int), v2] 228 (0, 0)) := (g5.block _ (by simp; omega) (ty_ne o3 e3 (by decide))).trans ((b4.block _ (by omega)).trans e3)
    have z5 : W5.heap[w.heap.size]? = some (Obj.cells #[.int .i64 0, .slice none 0 0] 228 (0, 0)) := (g5.block _ (by simp; omega) (ty_ne o3 z3 (by decide))).trans ((b4.block _ (by omega)).trans z3)
    refine ⟨e5, z5, fun W7 hW7 => ?_⟩
    subst hW7
    have z6 : (W5.setCell ⟨W2.heap.size, 1, none⟩ v5).heap[w.heap.size]? = some (Obj.cells #[.int .i64 0, .slice none 0 0] 228 (0, 0)) := (set_other (by omega)).trans z5
    have z7 := set_blk (j := 0) (v := .int .i64 (L.clock : Int)) z6
    have z8 := set_blk (j := 1) (v := v5) z7
    refine ⟨z8, ?_, ?_⟩
    · have o6 : W5.ownsRow w.heap.size 66 3 v5 (all ++ [nxE L all s]).length ((all ++ [nxE L all s]).flatMap eC) := by simpa [nxE, eC] using o5
      exact own_set_other (own_set_other (own_set_other o6 e5 (by decide)) z6 (by decide)) z7 (by decide)
    · have b5 : Below w.heap.size w W5 := ⟨g5.os.trans (b4.os.trans (b3.os.trans (b2.os.trans HB1.out.os))), g5.tape.trans (b4.tape.trans (b3.tape.trans (b2.tape.trans HB1.out.tape))), g5.output.trans (b4.output.trans (b3.output.trans (b2.output.trans HB1.out.output))), by have := g5.size; simp at this; omega, fun k hk => (g5.block k (by simp; omega) (fun q => by have := (own_block o2 q).1; omega)).trans ((b4.block k (by omega)).trans ((b3.block k (by omega)).trans ((b2.block k (by omega)).trans (HB1.out.block k hk))))⟩
      exact below_set (below_set (below_set b5 (by omega)) (Nat.le_refl _)) (Nat.le_refl _)
  clear hb h hbW hav k1 hb1 hW hsW
  generalize (L.clock : Int) = ck at *
  go_enter Tryz.func128, Tryz.ntmps128
  go_upto_region 1 with fail
  rw [← HW.out]
  go_upto_region 2 with (first | (go_at_call 199; refine CK.out.mono ?_; rintro e W2 ⟨av', rfl, o2, b2⟩; have hlt : w.heap.size < W2.heap.size := (by have := b2.size; have := HSW.out; omega); have hf := FIN.out W2 _ o2 b2; have HF := hide hf; obtain ⟨a2, c2, rfl, _, _⟩ := own_slice o2; clear o2 b2 hf))
  obtain ⟨W3, hW3⟩ : ∃ W3, W3 = W2.alloc (Obj.cells #[.int .i64 ck, .slice a2 all.length c2] 228) := ⟨_, rfl⟩
  obtain ⟨e3, o3, s3, hf⟩ := HF.out W3 hW3
  rw [← hW3]
  obtain ⟨x0, _⟩ := cell_of (j := 0) (u := .int .i64 ck) e3 rfl
  obtain ⟨x1, y1⟩ := cell_of (j := 1) (u := .slice a2 all.length c2) e3 rfl
  have HO3 := hide o3
  have HF5 := hide hf
  clear e3 o3 hf hW3 HF FIN CK
  generalize hn : w.heap.size = n at *
  have HN := hide hn
  generalize W2.heap.size = m at *
  clear hn
  have hne1 : ¬ m = n := by omega
  have hne2 : ¬ n = m := by omega
  go_wp2_with (first | (at_builtin; refine wpList_append_both _ rfl _ _ 57 rfl n 0 66 i0 (.agg #[.int .i64 0, .int .i64 0, .string ByteArray.empty]) 3 32 Tryz.underlying57 hi0 hz0 hz1 hz2 rfl (by decide) _ _ _ rfl HO3.out _ _ _ rfl (World.ownsRow_lit W3 #[.int .i64 (all.length : Int), .int .i64 ck, .string s] 1 (Nat.zero_le _) (by decide) rfl) (by intro u hu; simp at hu; rcases hu with rfl | rfl | rfl <;> rfl) (by unfold maxLen; omega) (by omega) (by simp; omega) ?_; intro v5 W5 o5 g5 n5; obtain ⟨e5, z5, hf7⟩ := HF5.out W5 v5 g5 o5; obtain ⟨p0, _⟩ := cell_of (j := 0) (u := .int .i64 ck) e5 rfl; obtain ⟨p1, p2⟩ := cell_of (j := 1) (u := .slice a2 all.length c2) e5 rfl; obtain ⟨p3, p4⟩ := cell_of (j := 0) (u := .int .i64 0) z5 rfl; obtain ⟨p5, p6⟩ := cell_of (j := 1) (u := .slice none 0 0) z5 rfl; have HF7 := hide hf7; obtain ⟨a5, c5, rfl, _, _⟩ := own_slice o5; clear o5 g5 n5 e5 z5 hf7))
  obtain ⟨W7, hW7⟩ : ∃ W7, W7 = ((W5.setCell ⟨m, 1, none⟩ (.slice a5 (all.length + 1) c5)).setCell ⟨n, 0, none⟩ (.int .i64 ck)).setCell ⟨n, 1, none⟩ (.slice a5 (all.length + 1) c5) := ⟨_, rfl⟩
  obtain ⟨r1, r2, r3⟩ := HF7.out W7 hW7
  rw [← hW7]
  have hld := run_loadVar_row (P := Tryz.prog) W7 n 228 228 _ _ _ r1 Tryz.underlying228 rfl Tryz.sizeKept
  refine bodyPost_ret (v := .agg #[.int .i64 ck, .slice a5 (all.length + 1) c5]) ?_ rfl ⟨_, rfl, ?_, ?_⟩
  · rw [results_cellG rfl]
    simp [asAddr, Result.andThen, hld]
  · rw [HN.out]; exact r2
  · rw [HN.out]; exact r3
end Go.Proofs.YtkncboinfcnklaaGreatDoor.Rl

namespace Go.Proofs.YtkncboinfcnklaaGreatDoor.Rl
open Go.RowKit Go.Deep Go.Shelf Go.Proofs.YtkncboinfcnklaaGreatDoor.Mth

set_option maxRecDepth 100000 in
set_option maxHeartbeats 2000000 in
/-- What would be kept behind a Tick. -/
theorem later_any {w : World} {B cb : Nat} {V : Rv} {L : Lg} {all : List Ent} (hb : w.heap[cb]? = some (Obj.cells (rfC V L) 234 (0, 0))) (h : w.ownsRow B 66 3 V.av all.length (all.flatMap eC)) (k : Int) (hl : all.length ≤ 4194303) (hc : L.clock ≤ 1000000000000) : Calls Tryz.prog 130 #[ptrV cb, .int .i64 k] w fun e w' => ∃ c' av', e = .returned (.agg #[.int .i64 c', av']) ∧ (0 ≤ k → k ≤ 1000 → c' = (L.clock : Int) + k) ∧ w'.ownsRow w.heap.size 66 3 av' all.length (all.flatMap eC) ∧ Below w.heap.size w w' := by
  obtain ⟨a, kk, hav, _, _⟩ := own_slice h
  have hb1 := below_allocG w (Obj.cells #[.int .i64 0, .slice none 0 0] 228)
  have k1 := new_blk w #[.int .i64 0, .slice none 0 0] 228
  obtain ⟨W, hW⟩ : ∃ W, W = w.alloc (Obj.cells #[.int .i64 0, .slice none 0 0] 228) := ⟨_, rfl⟩
  rw [← hW] at hb1 k1
  have hcb : cb < w.heap.size := (Array.getElem?_eq_some_iff.1 hb).1
  have hbW := (hb1.block cb hcb).trans hb
  have c6 := (cell_of (j := 6) (u := .int .i64 (L.clock : Int)) hbW rfl).1
  have c7 := (cell_of (j := 7) (u := V.av) hbW rfl).1
  have hsW : W.heap.size = w.heap.size + 1 := by rw [hW]; simp
  have CK := hide (copyK_any (c := (L.clock : Int)) (own_belowR h hb1) (by omega))
  rw [hav] at c7 CK
  have HK1 := hide k1
  have HB1 := hide hb1
  have HW := hide hW
  have HSW := hide hsW
  have FIN : Hid (∀ (W2 : World) (v2 : Value), W2.ownsRow W.heap.size 66 3 v2 all.length (all.flatMap eC) → Below W.heap.size W W2 → ∀ W3, W3 = W2.alloc (Obj.cells #[.int .i64 (L.clock : Int), v2] 228) → W3.heap[W2.heap.size]? = some (Obj.cells #[.int .i64 (L.clock : Int), v2] 228 (0, 0)) ∧ W3.heap[w.heap.size]? = some (Obj.cells #[.int .i64 0, .slice none 0 0] 228 (0, 0)) ∧ ∀ c' W7, W7 = ((W3.setCell ⟨W2.heap.size, 0, none⟩ (.int .i64 c')).setCell ⟨w.heap.size, 0, none⟩ (.int .i64 c')).setCell ⟨w.heap.size, 1, none⟩ v2 → W7.heap[w.heap.size]? = some (Obj.cells #[.int .i64 c', v2] 228 (0, 0)) ∧ W7.ownsRow w.heap.size 66 3 v2 all.length (all.flatMap eC) ∧ Below w.heap.size w W7) := by
    intro W2 v2 o2 b2 W3 hW3
    have hs := HSW.out
    have e3 : W3.heap[W2.heap.size]? = some (Obj.cells #[.int .i64 (L.clock : Int), v2] 228 (0, 0)) := by rw [hW3]; exact new_blk _ _ _
    have b3 : Below W2.heap.size W2 W3 := by rw [hW3]; exact below_allocG _ _
    have hs2 := b2.size
    have o3 := own_belowR o2 b3
    have z3 : W3.heap[w.heap.size]? = some (Obj.cells #[.int .i64 0, .slice none 0 0] 228 (0, 0)) := (b3.block _ (by omega)).trans ((b2.block _ (by omega)).trans HK1.out)
    refine ⟨e3, z3, fun c' W7 hW7 => ?_⟩
    subst hW7
    have z6 : (W3.setCell ⟨W2.heap.size, 0, none⟩ (.int .i64 c')).heap[w.heap.size]? = some (Obj.cells #[.int .i64 0, .slice none 0 0] 228 (0, 0)) := (set_other (by omega)).trans z3
    have z7 := set_blk (j := 0) (v := .int .i64 c') z6
    have z8 := set_blk (j := 1) (v := v2) z7
    refine ⟨z8, own_mono (own_set_other (own_set_other (own_set_other o3 e3 (by decide)) z6 (by decide)) z7 (by decide)) (by omega), ?_⟩
    have b5 : Below w.heap.size w W3 := HB1.out.trans ((b2.trans (b3.mono b2.size)).mono (by omega))
    exact below_set (below_set (below_set b5 (by omega)) (Nat.le_refl _)) (Nat.le_refl _)
  clear hb h hbW hav k1 hb1 hW hsW
  generalize hck : (L.clock : Int) = ck at *
  have hc1 : 0 ≤ ck ∧ ck ≤ 1000000000000 := by omega
  clear hck
  have HCK := hide hc1
  clear hc1 hc
  go_enter Tryz.func130, Tryz.ntmps130
  go_upto_region 1 with fail
  rw [← HW.out]
  go_upto_region 2 with (first | (go_at_call 199; refine CK.out.mono ?_; rintro e W2 ⟨av', rfl, o2, b2⟩; have hlt : w.heap.size < W2.heap.size := (by have := b2.size; have := HSW.out; omega); have hf := FIN.out W2 _ o2 b2; have HF := hide hf; obtain ⟨a2, c2, rfl, _, _⟩ := own_slice o2; clear o2 b2 hf))
  obtain ⟨W3, hW3⟩ : ∃ W3, W3 = W2.alloc (Obj.cells #[.int .i64 ck, .slice a2 all.length c2] 228) := ⟨_, rfl⟩
  obtain ⟨e3, z3, hf⟩ := HF.out W3 hW3
  rw [← hW3]
  obtain ⟨x0, y0⟩ := cell_of (j := 0) (u := .int .i64 ck) e3 rfl
  obtain ⟨x1, y1⟩ := cell_of (j := 1) (u := .slice a2 all.length c2) e3 rfl
  obtain ⟨p3, p4⟩ := cell_of (j := 0) (u := .int .i64 0) z3 rfl
  obtain ⟨p5, p6⟩ := cell_of (j := 1) (u := .slice none 0 0) z3 rfl
  have HF5 := hide hf
  clear e3 z3 hf hW3 HF FIN CK
  generalize hn : w.heap.size = n at *
  have HN := hide hn
  generalize W2.heap.size = m at *
  clear hn
  have hne1 : ¬ m = n := by omega
  have hne2 : ¬ n = m := by omega
  go_wp2_with fail
  obtain ⟨cc, hcc⟩ : ∃ cc, cc = wrap64 (ck + k) := ⟨_, rfl⟩
  rw [← hcc]
  obtain ⟨W7, hW7⟩ : ∃ W7, W7 = ((W3.setCell ⟨m, 0, none⟩ (.int .i64 cc)).setCell ⟨n, 0, none⟩ (.int .i64 cc)).setCell ⟨n, 1, none⟩ (.slice a2 all.length c2) := ⟨_, rfl⟩
  obtain ⟨r1, r2, r3⟩ := HF5.out cc W7 hW7
  rw [← hW7]
  have hld := run_loadVar_row (P := Tryz.prog) W7 n 228 228 _ _ _ r1 Tryz.underlying228 rfl Tryz.sizeKept
  refine bodyPost_ret (v := .agg #[.int .i64 cc, .slice a2 all.length c2]) ?_ rfl ⟨_, _, rfl, ?_, ?_, ?_⟩
  · rw [results_cellG rfl]
    simp [asAddr, Result.andThen, hld]
  · intro h0 h1
    have := HCK.out
    rw [hcc]
    unfold wrap64
    omega
  · rw [HN.out]; exact r2
  · rw [HN.out]; exact r3
end Go.Proofs.YtkncboinfcnklaaGreatDoor.Rl
