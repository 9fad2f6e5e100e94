import Derived.Test.YtkncboinfcnklaaGreatDoorKb
namespace Go.Proofs.YtkncboinfcnklaaGreatDoor.Kp
open Go.RowKit Go.Deep Go.Proofs.YtkncboinfcnklaaGreatDoor.Mth

theorem below_drewR {n : Nat} {w W : World} (h : Below n w W) : Below n w W.drew := ⟨h.os, h.tape, h.output, h.size, h.block⟩
theorem heap_drew (W : World) (k : Nat) : W.drew.heap[k]? = W.heap[k]? := rfl
set_option maxRecDepth 100000 in
set_option maxHeartbeats 8000000 in
theorem config_any (c0 c1 c2 c3 c4 c5 : Int) (w : World) (h0 : I64 c0) (h1 : I64 c1) (h2 : I64 c2) (h3 : I64 c3) (h4 : I64 c4) (h5 : I64 c5) :
    Calls Tryz.prog 84 #[.agg #[.int .i64 c0, .int .i64 c1, .int .i64 c2, .int .i64 c3, .int .i64 c4, .int .i64 c5]] w fun e w' => e = .returned (.agg #[.int .i64 (1 + pkI c0 8), .int .i64 (2 + pkI c1 3), .int .i64 (pkI c2 5), .int .i64 (1 + pkI c3 4), .int .i64 (1 + pkI c4 1000000), .int .i64 (1 + pkI c5 8)]) ∧ Below w.heap.size w w' := by
  have HB1 := hide (below_allocG w (Obj.cells #[.int .i64 c0, .int .i64 c1, .int .i64 c2, .int .i64 c3, .int .i64 c4, .int .i64 c5] 49))
  have C0 : Hid (∀ w, Calls Tryz.prog 47 #[.int .i64 c0, .int .i64 8] w fun e w' => e = .returned (.int .i64 (pkI c0 8)) ∧ w' = w) := fun w => pick_any c0 8 w h0.1 h0.2 (by omega) (by omega)
  have C1 : Hid (∀ w, Calls Tryz.prog 47 #[.int .i64 c1, .int .i64 3] w fun e w' => e = .returned (.int .i64 (pkI c1 3)) ∧ w' = w) := fun w => pick_any c1 3 w h1.1 h1.2 (by omega) (by omega)
  have C2 : Hid (∀ w, Calls Tryz.prog 47 #[.int .i64 c2, .int .i64 5] w fun e w' => e = .returned (.int .i64 (pkI c2 5)) ∧ w' = w) := fun w => pick_any c2 5 w h2.1 h2.2 (by omega) (by omega)
  have C3 : Hid (∀ w, Calls Tryz.prog 47 #[.int .i64 c3, .int .i64 4] w fun e w' => e = .returned (.int .i64 (pkI c3 4)) ∧ w' = w) := fun w => pick_any c3 4 w h3.1 h3.2 (by omega) (by omega)
  have C4 : Hid (∀ w, Calls Tryz.prog 47 #[.int .i64 c4, .int .i64 1000000] w fun e w' => e = .returned (.int .i64 (pkI c4 1000000)) ∧ w' = w) := fun w => pick_any c4 1000000 w h4.1 h4.2 (by omega) (by omega)
  have C5 : Hid (∀ w, Calls Tryz.prog 47 #[.int .i64 c5, .int .i64 8] w fun e w' => e = .returned (.int .i64 (pkI c5 8)) ∧ w' = w) := fun w => pick_any c5 8 w h5.1 h5.2 (by omega) (by omega)
  have b0 := pkI_bd c0 8 (by omega)
  have b1 := pkI_bd c1 3 (by omega)
  have b2 := pkI_bd c2 5 (by omega)
  have b3 := pkI_bd c3 4 (by omega)
  have b4 := pkI_bd c4 1000000 (by omega)
  have b5 := pkI_bd c5 8 (by omega)
  generalize pkI c0 8 = p0 at *
  generalize pkI c1 3 = p1 at *
  generalize pkI c2 5 = p2 at *
  generalize pkI c3 4 = p3 at *
  generalize pkI c4 1000000 = p4 at *
  generalize pkI c5 8 = p5 at *
  clear h0 h1 h2 h3 h4 h5
  go_enter Tryz.func84, Tryz.ntmps84
  go_wp2_with fail
  have HB2 := hide (HB1.out.trans ((below_allocG (w.alloc (Obj.cells #[.int .i64 c0, .int .i64 c1, .int .i64 c2, .int .i64 c3, .int .i64 c4, .int .i64 c5] 49)) (Obj.cells #[.int .i64 0, .int .i64 0, .int .i64 0, .int .i64 0, .int .i64 0, .int .i64 0] 56)).mono HB1.out.size))
  have hk1 := old_blk (Obj.cells #[.int .i64 0, .int .i64 0, .int .i64 0, .int .i64 0, .int .i64 0, .int .i64 0] 56) (new_blk w #[.int .i64 c0, .int .i64 c1, .int .i64 c2, .int .i64 c3, .int .i64 c4, .int .i64 c5] 49)
  have hk2 := new_blk (w.alloc (Obj.cells #[.int .i64 c0, .int .i64 c1, .int .i64 c2, .int .i64 c3, .int .i64 c4, .int .i64 c5] 49)) #[.int .i64 0, .int .i64 0, .int .i64 0, .int .i64 0, .int .i64 0, .int .i64 0] 56
  rw [World.size_alloc] at hk2
  generalize (w.alloc (Obj.cells #[.int .i64 c0, .int .i64 c1, .int .i64 c2, .int .i64 c3, .int .i64 c4, .int .i64 c5] 49)).alloc (Obj.cells #[.int .i64 0, .int .i64 0, .int .i64 0, .int .i64 0, .int .i64 0, .int .i64 0] 56) = w2 at *
  obtain ⟨nb, hnb⟩ : ∃ nb, nb = w.heap.size := ⟨_, rfl⟩
  obtain ⟨rb, hrb⟩ : ∃ rb, rb = w.heap.size + 1 := ⟨_, rfl⟩
  rw [← hrb] at hk2 ⊢
  rw [← hnb] at hk1 ⊢
  have hne : nb ≠ rb := by omega
  have FIN : Hid (∀ (v0 v1 v2 v3 v4 v5 : Value), Below w.heap.size w ((((((w2.setCell ⟨rb, 0, none⟩ v0).setCell ⟨rb, 1, none⟩ v1).setCell ⟨rb, 2, none⟩ v2).setCell ⟨rb, 3, none⟩ v3).setCell ⟨rb, 4, none⟩ v4).setCell ⟨rb, 5, none⟩ v5).drew ∧ ((((((w2.setCell ⟨rb, 0, none⟩ v0).setCell ⟨rb, 1, none⟩ v1).setCell ⟨rb, 2, none⟩ v2).setCell ⟨rb, 3, none⟩ v3).setCell ⟨rb, 4, none⟩ v4).setCell ⟨rb, 5, none⟩ v5).drew.heap[rb]? = some (Obj.cells #[v0, v1, v2, v3, v4, v5] 56 (0, 0))) := by
    intro v0 v1 v2 v3 v4 v5
    have hB3 := HB2.out
    have hx := below_set (j := 5) (v := v5) (below_set (j := 4) (v := v4) (below_set (j := 3) (v := v3) (below_set (j := 2) (v := v2) (below_set (j := 1) (v := v1) (below_set (j := 0) (v := v0) hB3 (show w.heap.size ≤ rb by omega)) (show w.heap.size ≤ rb by omega)) (show w.heap.size ≤ rb by omega)) (show w.heap.size ≤ rb by omega)) (show w.heap.size ≤ rb by omega)) (show w.heap.size ≤ rb by omega)
    have hy := setCell_blk (j := 5) (v := v5) (setCell_blk (j := 4) (v := v4) (setCell_blk (j := 3) (v := v3) (setCell_blk (j := 2) (v := v2) (setCell_blk (j := 1) (v := v1) (setCell_blk (j := 0) (v := v0) hk2)))))
    have e : ((((((#[.int .i64 0, .int .i64 0, .int .i64 0, .int .i64 0, .int .i64 0, .int .i64 0] : Array Value).setIfInBounds 0 v0).setIfInBounds 1 v1).setIfInBounds 2 v2).setIfInBounds 3 v3).setIfInBounds 4 v4).setIfInBounds 5 v5 = #[v0, v1, v2, v3, v4, v5] := by simp
    rw [e] at hy
    exact ⟨below_drewR hx, (heap_drew _ _).trans hy⟩
  have KP : Hid (∀ (v0 v1 v2 v3 v4 v5 : Value) (j : Nat), ((((((w2.setCell ⟨rb, 0, none⟩ v0).setCell ⟨rb, 1, none⟩ v1).setCell ⟨rb, 2, none⟩ v2).setCell ⟨rb, 3, none⟩ v3).setCell ⟨rb, 4, none⟩ v4).setCell ⟨rb, 5, none⟩ v5).drew.cell? ⟨nb, j, none⟩ = w2.cell? ⟨nb, j, none⟩) := by
    intro v0 v1 v2 v3 v4 v5 j
    refine World.cell?_of_block (w := w2) (a := ⟨nb, j, none⟩) ((heap_drew _ _).trans ?_)
    show ((((((w2.setCell ⟨rb, 0, none⟩ v0).setCell ⟨rb, 1, none⟩ v1).setCell ⟨rb, 2, none⟩ v2).setCell ⟨rb, 3, none⟩ v3).setCell ⟨rb, 4, none⟩ v4).setCell ⟨rb, 5, none⟩ v5).heap[nb]? = w2.heap[nb]?
    rw [set_other hne, set_other hne, set_other hne, set_other hne, set_other hne, set_other hne]
  clear hnb hrb HB1 HB2
  obtain ⟨a0, _⟩ := cell_of (j := 0) (u := .int .i64 c0) hk1 rfl
  obtain ⟨r0, f0⟩ := cell_of (j := 0) (u := .int .i64 0) hk2 rfl
  obtain ⟨a1, _⟩ := cell_of (j := 1) (u := .int .i64 c1) hk1 rfl
  obtain ⟨r1, f1⟩ := cell_of (j := 1) (u := .int .i64 0) hk2 rfl
  obtain ⟨a2, _⟩ := cell_of (j := 2) (u := .int .i64 c2) hk1 rfl
  obtain ⟨r2, f2⟩ := cell_of (j := 2) (u := .int .i64 0) hk2 rfl
  obtain ⟨a3, _⟩ := cell_of (j := 3) (u := .int .i64 c3) hk1 rfl
  obtain ⟨r3, f3⟩ := cell_of (j := 3) (u := .int .i64 0) hk2 rfl
  obtain ⟨a4, _⟩ := cell_of (j := 4) (u := .int .i64 c4) hk1 rfl
  obtain ⟨r4, f4⟩ := cell_of (j := 4) (u := .int .i64 0) hk2 rfl
  obtain ⟨a5, _⟩ := cell_of (j := 5) (u := .int .i64 c5) hk1 rfl
  obtain ⟨r5, f5⟩ := cell_of (j := 5) (u := .int .i64 0) hk2 rfl
  clear hk1 hk2
  have z0 : w2.drew.cell? ⟨nb, 0, none⟩ = some (.int .i64 c0) := a0
  have z1 : w2.drew.cell? ⟨nb, 1, none⟩ = some (.int .i64 c1) := a1
  have z2 : w2.drew.cell? ⟨nb, 2, none⟩ = some (.int .i64 c2) := a2
  have z3 : w2.drew.cell? ⟨nb, 3, none⟩ = some (.int .i64 c3) := a3
  have z4 : w2.drew.cell? ⟨nb, 4, none⟩ = some (.int .i64 c4) := a4
  have z5 : w2.drew.cell? ⟨nb, 5, none⟩ = some (.int .i64 c5) := a5
  go_region_held3 (fun w' => w'.cell? ⟨nb, 0, none⟩ = some (.int .i64 c0) ∧ w'.cell? ⟨nb, 1, none⟩ = some (.int .i64 c1) ∧ w'.cell? ⟨nb, 2, none⟩ = some (.int .i64 c2) ∧ w'.cell? ⟨nb, 3, none⟩ = some (.int .i64 c3) ∧ w'.cell? ⟨nb, 4, none⟩ = some (.int .i64 c4) ∧ w'.cell? ⟨nb, 5, none⟩ = some (.int .i64 c5)) (first | with_reducible exact ⟨z0, z1, z2, z3, z4, z5⟩ | exact ⟨(KP.out _ _ _ _ _ _ 0).trans a0, (KP.out _ _ _ _ _ _ 1).trans a1, (KP.out _ _ _ _ _ _ 2).trans a2, (KP.out _ _ _ _ _ _ 3).trans a3, (KP.out _ _ _ _ _ _ 4).trans a4, (KP.out _ _ _ _ _ _ 5).trans a5⟩)
    (first
      | (go_at_call_of 47 (Value.int .i64 c0); refine (C0.out _).mono ?_; rintro e w' ⟨rfl, rfl⟩)
      | (go_at_call_of 47 (Value.int .i64 c1); refine (C1.out _).mono ?_; rintro e w' ⟨rfl, rfl⟩)
      | (go_at_call_of 47 (Value.int .i64 c2); refine (C2.out _).mono ?_; rintro e w' ⟨rfl, rfl⟩)
      | (go_at_call_of 47 (Value.int .i64 c3); refine (C3.out _).mono ?_; rintro e w' ⟨rfl, rfl⟩)
      | (go_at_call_of 47 (Value.int .i64 c4); refine (C4.out _).mono ?_; rintro e w' ⟨rfl, rfl⟩)
      | (go_at_call_of 47 (Value.int .i64 c5); refine (C5.out _).mono ?_; rintro e w' ⟨rfl, rfl⟩))
  have e0 : IntKind.i64.wrap (1 + p0) = 1 + p0 := by rw [IntKind.wrap_i64]; omega
  have e1 : IntKind.i64.wrap (2 + p1) = 2 + p1 := by rw [IntKind.wrap_i64]; omega
  have e3 : IntKind.i64.wrap (1 + p3) = 1 + p3 := by rw [IntKind.wrap_i64]; omega
  have e4 : IntKind.i64.wrap (1 + p4) = 1 + p4 := by rw [IntKind.wrap_i64]; omega
  have e5 : IntKind.i64.wrap (1 + p5) = 1 + p5 := by rw [IntKind.wrap_i64]; omega
  rw [e0, e1, e3, e4, e5]
  obtain ⟨hB, hblk⟩ := FIN.out (.int .i64 (1 + p0)) (.int .i64 (2 + p1)) (.int .i64 p2) (.int .i64 (1 + p3)) (.int .i64 (1 + p4)) (.int .i64 (1 + p5))
  clear FIN KP C0 C1 C2 C3 C4 C5 e0 e1 e3 e4 e5
  generalize ((((((w2.setCell ⟨rb, 0, none⟩ (.int .i64 (1 + p0))).setCell ⟨rb, 1, none⟩ (.int .i64 (2 + p1))).setCell ⟨rb, 2, none⟩ (.int .i64 p2)).setCell ⟨rb, 3, none⟩ (.int .i64 (1 + p3))).setCell ⟨rb, 4, none⟩ (.int .i64 (1 + p4))).setCell ⟨rb, 5, none⟩ (.int .i64 (1 + p5))).drew = W5 at *
  have hld := run_loadVar_row (P := Tryz.prog) _ rb 56 56 _ _ _ hblk Tryz.underlying56 rfl Tryz.sizeCf
  have HLD := hide hld
  have HBB := hide hB
  clear hld hB hblk
  go_wp2
  (try simp only [Exit.inBlock, Exit.then])
  refine bodyPost_ret (v := .agg #[.int .i64 (1 + p0), .int .i64 (2 + p1), .int .i64 p2, .int .i64 (1 + p3), .int .i64 (1 + p4), .int .i64 (1 + p5)]) ?_ rfl ⟨rfl, HBB.out⟩
  have hld := HLD.out
  rw [results_cellG rfl]
  simp [asAddr, Result.andThen, hld]
end Go.Proofs.YtkncboinfcnklaaGreatDoor.Kp
