import Derived.Test.YtkncboinfcnklaaW1
namespace Go.Proofs.Ytkncboinfcnklaa
open Go.RowKit Go.Deep Mth

theorem bcell {W w1 : World} (hb : Below W.heap.size W w1) : (∀ b o, b < W.heap.size → w1.cell? ⟨b, o, none⟩ = W.cell? ⟨b, o, none⟩) ∧ (∀ b o, b < W.heap.size → w1.frozen? ⟨b, o, none⟩ = W.frozen? ⟨b, o, none⟩) :=
  ⟨fun b o h => hb.cell (p := ⟨b, o, none⟩) h, fun b o h => hb.frozen (p := ⟨b, o, none⟩) h⟩

theorem inT_lt {α : Type} {enc : α → Value} {w : World} {b o : Nat} {a : α} {l r : BT α} (h : InT enc w (.node b o a l r)) : b < w.heap.size := World.block_lt_of_cell? _ _ h.2.1

theorem inT_drewN {α : Type} {enc : α → Value} {w : World} {n : Nat} {T : BT α} (h : InT enc w T) : InT enc (w.drewN n) T := InT.drewN (w := w) (w' := w.drewN n) rfl h

theorem size_at {T : BT Int} {u : Option Addr} (hu : T.ptr = .pointer u) {w : World} (h : InT eI w T) :
    Calls Try.prog 27 #[.pointer u] w fun e w' => e = .returned (.int .i64 (lst T).length) ∧ w' = w := by
  have := size_any T w h
  rwa [hu] at this

theorem join_at {L R : BT Int} {u v : Option Addr} (hu : L.ptr = .pointer u) (hv : R.ptr = .pointer v) (x : Int) {w : World} (hL : InT eI w L) (hR : InT eI w R) (hb : (lst L).length + 1 + (lst R).length ≤ 4611686018427387904) :
    Calls Try.prog 40 #[.pointer u, .int .i64 x, .pointer v] w fun e w' => e = .returned (.pointer (some ⟨w.heap.size, 0, none⟩)) ∧ InT eI w' (.node w.heap.size 0 x L R) ∧ Below w.heap.size w w' := by
  have := join_any L R x w hL hR hb
  rwa [hu, hv] at this

/-- What a call that makes a tree of a list leaves. -/
def Tree (w : World) (l : List Int) (e : Ending) (w' : World) : Prop := ∃ T : BT Int, e = .returned T.ptr ∧ InT eI w' T ∧ Below w.heap.size w w' ∧ lst T = l

theorem below_drew {w w' : World} {n : Nat} (h : Below (w.drewN n).heap.size (w.drewN n) w') : Below w.heap.size w w' := ⟨h.os, h.tape, h.output, h.size, h.block⟩

set_option maxHeartbeats 1000000 in
theorem turnLeft_one (L Rl Rr : BT Int) (x a : Int) (b : Nat) (w : World) (hL : InT eI w L) (hR : InT eI w (.node b 0 a Rl Rr)) (hb : (lst L).length + 2 + (lst Rl).length + (lst Rr).length ≤ 4611686018427387) (hlt : (lst Rl).length < 2 * (lst Rr).length) :
    Calls Try.prog 59 #[L.ptr, .int .i64 x, .pointer (some ⟨b, 0, none⟩)] w (Tree w (lst L ++ x :: lst (.node b 0 a Rl Rr))) := by
  have hblt := inT_lt hR
  have HR : Hid (InT eI w (.node b 0 a Rl Rr)) := hR
  obtain ⟨_, c0, c1, c2, c3, hl, hr⟩ := hR
  obtain ⟨u, hu⟩ := ptr_pointer L
  obtain ⟨ul, hul⟩ := ptr_pointer Rl
  obtain ⟨ur, hur⟩ := ptr_pointer Rr
  rw [hu]
  rw [hul] at c2
  rw [hur] at c3
  have HU := hide hu
  have HUL := hide hul
  have HUR := hide hur
  have HL : Hid (InT eI w L) := hL
  have Hl : Hid (InT eI w Rl) := hl
  have Hr : Hid (InT eI w Rr) := hr
  have hq : ((lst Rl).length : Int) < 2 * ((lst Rr).length : Int) := by omega
  clear hu hul hur hL hl hr c1 hlt
  go_enter Try.func59, Try.ntmps59
  go_wp2_with fail
  go_quiet (first
    | (go_at_call_of 27 (Value.pointer ul); refine Calls.quiet_of_same (size_at HUL.out ?_); exact inT_drewN Hl.out)
    | (go_at_call_of 27 (Value.pointer ur); refine Calls.quiet_of_same (size_at HUR.out ?_); exact inT_drewN Hr.out))
  go_wp2_with fail
  clear c2
  go_region_held3 (fun w' => w'.cell? ⟨b, 0, none⟩ = some (.int .i64 a) ∧ w'.cell? ⟨b, 3, none⟩ = some (.pointer ur)) (first | exact ⟨by assumption, by assumption⟩ | go_keep)
    (first
      | (go_at_call_of 40 (Value.pointer ul); refine (join_at HU.out HUL.out x (by exact inT_drewN HL.out) (by exact inT_drewN Hl.out) (by omega)).mono ?_; rintro e w1 ⟨rfl, hT1, hB1⟩; have k0 : w1.cell? ⟨b, 0, none⟩ = some (.int .i64 a) := (hB1.cell (p := ⟨b, 0, none⟩) hblt).trans c0; have k3 : w1.cell? ⟨b, 3, none⟩ = some (.pointer ur) := (hB1.cell (p := ⟨b, 3, none⟩) hblt).trans c3; have hlt1 : b < w1.heap.size := World.block_lt_of_cell? _ _ k0; have HT1 := hide hT1; have HB1 := hide hB1; clear hT1 hB1)
      | (go_at_call_of 40 (Value.pointer ur); refine (join_at (L := .node _ 0 x L Rl) rfl HUR.out a (by exact HT1.out) (by exact InT.below HB1.out (inT_drewN Hr.out)) (by simp [lst]; omega)).mono ?_; rintro e w2 ⟨rfl, hT2, hB2⟩; have j0 : w2.cell? ⟨b, 0, none⟩ = some (.int .i64 a) := (hB2.cell (p := ⟨b, 0, none⟩) hlt1).trans k0; have j3 : w2.cell? ⟨b, 3, none⟩ = some (.pointer ur) := (hB2.cell (p := ⟨b, 3, none⟩) hlt1).trans k3; have HT2 := hide hT2; have HB2 := hide hB2; clear hT2 hB2))
  go_wp2
  go_ret
  exact ⟨.node _ 0 a (.node _ 0 x L Rl) Rr, rfl, HT2.out, (below_drew HB1.out).trans (HB2.out.mono (below_drew HB1.out).size), by simp [lst]⟩

set_option maxHeartbeats 2000000 in
theorem turnLeft_two (L l2 r2 Rr : BT Int) (x a a2 : Int) (b b2 : Nat) (w : World) (hL : InT eI w L) (hR : InT eI w (.node b 0 a (.node b2 0 a2 l2 r2) Rr)) (hb : (lst L).length + 3 + (lst l2).length + (lst r2).length + (lst Rr).length ≤ 4611686018427387) (hlt : ¬ (lst (.node b2 0 a2 l2 r2)).length < 2 * (lst Rr).length) :
    Calls Try.prog 59 #[L.ptr, .int .i64 x, .pointer (some ⟨b, 0, none⟩)] w (Tree w (lst L ++ x :: lst (.node b 0 a (.node b2 0 a2 l2 r2) Rr))) := by
  have hblt := inT_lt hR
  obtain ⟨_, c0, c1, c2, c3, hl, hr⟩ := hR
  have hblt2 := inT_lt hl
  have Hl : Hid (InT eI w (.node b2 0 a2 l2 r2)) := hl
  obtain ⟨_, d0, d1, d2, d3, hl2, hr2⟩ := hl
  obtain ⟨u, hu⟩ := ptr_pointer L
  obtain ⟨ul, hul⟩ := ptr_pointer l2
  obtain ⟨um, hum⟩ := ptr_pointer r2
  obtain ⟨ur, hur⟩ := ptr_pointer Rr
  rw [hu]
  have c2' : w.cell? ⟨b, 2, none⟩ = some (.pointer (some ⟨b2, 0, none⟩)) := c2
  rw [hul] at d2
  rw [hum] at d3
  rw [hur] at c3
  have HU := hide hu
  have HUL := hide hul
  have HUM := hide hum
  have HUR := hide hur
  have HL : Hid (InT eI w L) := hL
  have Hl2 : Hid (InT eI w l2) := hl2
  have Hr2 : Hid (InT eI w r2) := hr2
  have Hr : Hid (InT eI w Rr) := hr
  have hq : ¬ ((lst (.node b2 0 a2 l2 r2)).length : Int) < 2 * ((lst Rr).length : Int) := by omega
  have hqs : (lst (.node b2 0 a2 l2 r2)).length ≤ 4611686018427387 := by simp [lst]; omega
  clear hu hul hum hur hL hl2 hr2 hr c1 c2 d1 hlt
  go_enter Try.func59, Try.ntmps59
  go_wp2_with fail
  go_quiet (first
    | (go_at_call_of 27 (Value.pointer (some ⟨b2, 0, none⟩)); refine Calls.quiet_of_same (size_at (T := .node b2 0 a2 l2 r2) rfl ?_); exact inT_drewN Hl.out)
    | (go_at_call_of 27 (Value.pointer ur); refine Calls.quiet_of_same (size_at HUR.out ?_); exact inT_drewN Hr.out))
  go_wp2_with fail
  clear c2'
  go_region_held3 (fun w' => w'.cell? ⟨b, 0, none⟩ = some (.int .i64 a) ∧ w'.cell? ⟨b, 3, none⟩ = some (.pointer ur) ∧ w'.cell? ⟨b2, 0, none⟩ = some (.int .i64 a2) ∧ w'.cell? ⟨b2, 2, none⟩ = some (.pointer ul) ∧ w'.cell? ⟨b2, 3, none⟩ = some (.pointer um)) (first | exact ⟨by assumption, by assumption, by assumption, by assumption, by assumption⟩ | go_keep)
    (first
      | (go_at_call_of 40 (Value.pointer ul); refine (join_at HU.out HUL.out x (by exact inT_drewN HL.out) (by exact inT_drewN Hl2.out) (by omega)).mono ?_; rintro e w1 ⟨rfl, hT1, hB1⟩; have k0 : w1.cell? ⟨b, 0, none⟩ = some (.int .i64 a) := (hB1.cell (p := ⟨b, 0, none⟩) hblt).trans c0; have k3 : w1.cell? ⟨b, 3, none⟩ = some (.pointer ur) := (hB1.cell (p := ⟨b, 3, none⟩) hblt).trans c3; have i0 : w1.cell? ⟨b2, 0, none⟩ = some (.int .i64 a2) := (hB1.cell (p := ⟨b2, 0, none⟩) hblt2).trans d0; have i2 : w1.cell? ⟨b2, 2, none⟩ = some (.pointer ul) := (hB1.cell (p := ⟨b2, 2, none⟩) hblt2).trans d2; have i3 : w1.cell? ⟨b2, 3, none⟩ = some (.pointer um) := (hB1.cell (p := ⟨b2, 3, none⟩) hblt2).trans d3; have hlt1 : b < w1.heap.size := World.block_lt_of_cell? _ _ k0; have hlt2 : b2 < w1.heap.size := World.block_lt_of_cell? _ _ i0; have HT1 := hide hT1; have HB1 := hide hB1; clear hT1 hB1)
      | (go_at_call_of 40 (Value.pointer um); refine (join_at HUM.out HUR.out a (by exact InT.below HB1.out (inT_drewN Hr2.out)) (by exact InT.below HB1.out (inT_drewN Hr.out)) (by omega)).mono ?_; rintro e w2 ⟨rfl, hT2, hB2⟩; have j0 : w2.cell? ⟨b, 0, none⟩ = some (.int .i64 a) := (hB2.cell (p := ⟨b, 0, none⟩) hlt1).trans k0; have j3 : w2.cell? ⟨b, 3, none⟩ = some (.pointer ur) := (hB2.cell (p := ⟨b, 3, none⟩) hlt1).trans k3; have f0 : w2.cell? ⟨b2, 0, none⟩ = some (.int .i64 a2) := (hB2.cell (p := ⟨b2, 0, none⟩) hlt2).trans i0; have f2 : w2.cell? ⟨b2, 2, none⟩ = some (.pointer ul) := (hB2.cell (p := ⟨b2, 2, none⟩) hlt2).trans i2; have f3 : w2.cell? ⟨b2, 3, none⟩ = some (.pointer um) := (hB2.cell (p := ⟨b2, 3, none⟩) hlt2).trans i3; have hlt3 : b < w2.heap.size := World.block_lt_of_cell? _ _ j0; have hlt4 : b2 < w2.heap.size := World.block_lt_of_cell? _ _ f0; have HT2 := hide hT2; have HB2 := hide hB2; clear hT2 hB2)
      | (go_at_call_of 40 (Value.int .i64 a2); refine (join_at (L := .node _ 0 x L l2) (R := .node _ 0 a r2 Rr) rfl rfl a2 (by exact InT.below HB2.out HT1.out) (by exact HT2.out) (by simp [lst]; omega)).mono ?_; rintro e w3 ⟨rfl, hT3, hB3⟩; have j0' : w3.cell? ⟨b, 0, none⟩ = some (.int .i64 a) := (hB3.cell (p := ⟨b, 0, none⟩) hlt3).trans j0; have j3' : w3.cell? ⟨b, 3, none⟩ = some (.pointer ur) := (hB3.cell (p := ⟨b, 3, none⟩) hlt3).trans j3; have f0' : w3.cell? ⟨b2, 0, none⟩ = some (.int .i64 a2) := (hB3.cell (p := ⟨b2, 0, none⟩) hlt4).trans f0; have f2' : w3.cell? ⟨b2, 2, none⟩ = some (.pointer ul) := (hB3.cell (p := ⟨b2, 2, none⟩) hlt4).trans f2; have f3' : w3.cell? ⟨b2, 3, none⟩ = some (.pointer um) := (hB3.cell (p := ⟨b2, 3, none⟩) hlt4).trans f3; have HT3 := hide hT3; have HB3 := hide hB3; clear hT3 hB3))
  go_wp2
  go_ret
  exact ⟨.node _ 0 a2 (.node _ 0 x L l2) (.node _ 0 a r2 Rr), rfl, HT3.out, ((below_drew HB1.out).trans (HB2.out.mono (below_drew HB1.out).size)).trans (HB3.out.mono (Nat.le_trans (below_drew HB1.out).size HB2.out.size)), by simp [lst]⟩
end Go.Proofs.Ytkncboinfcnklaa
