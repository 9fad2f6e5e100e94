import Derived.Test.YtkncboinfcnklaaS2
namespace Go.Proofs.Ytkncboinfcnklaa.Str
open Go.RowKit Go.Deep Go.Proofs.Ytkncboinfcnklaa.Mth

set_option maxHeartbeats 1000000 in
theorem turnRight_one (R Ll Lr : BT ByteArray) (x a : ByteArray) (b : Nat) (w : World) (hR : InT eS w R) (hL : InT eS w (.node b 0 a Ll Lr)) (hb : (lst R).length + 2 + (lst Ll).length + (lst Lr).length ≤ 4611686018427387) (hlt : (lst Lr).length < 2 * (lst Ll).length) :
    Calls Try.prog 70 #[.pointer (some ⟨b, 0, none⟩), .string x, R.ptr] w (Tree w (lst (.node b 0 a Ll Lr) ++ x :: lst R)) := by
  have hblt := inT_lt hL
  obtain ⟨_, c0, c1, c2, c3, hl, hr⟩ := hL
  obtain ⟨u, hu⟩ := ptr_pointer R
  obtain ⟨ul, hul⟩ := ptr_pointer Ll
  obtain ⟨ur, hur⟩ := ptr_pointer Lr
  rw [hu]
  rw [hul] at c2
  rw [hur] at c3
  have HU := hide hu
  have HUL := hide hul
  have HUR := hide hur
  have HR : Hid (InT eS w R) := hR
  have Hl : Hid (InT eS w Ll) := hl
  have Hr : Hid (InT eS w Lr) := hr
  have hq : ((lst Lr).length : Int) < 2 * ((lst Ll).length : Int) := by omega
  clear hu hul hur hR hl hr c1 hlt
  go_enter Try.func70, Try.ntmps70
  go_wp2_with fail
  go_quiet (first
    | (go_at_call_of 34 (Value.pointer ul); refine Calls.quiet_of_same (size_at HUL.out ?_); exact inT_drewN Hl.out)
    | (go_at_call_of 34 (Value.pointer ur); refine Calls.quiet_of_same (size_at HUR.out ?_); exact inT_drewN Hr.out))
  go_wp2_with fail
  clear c3
  go_region_held3 (fun w' => w'.cell? ⟨b, 0, none⟩ = some (.string a) ∧ w'.cell? ⟨b, 2, none⟩ = some (.pointer ul)) (first | exact ⟨by assumption, by assumption⟩ | go_keep)
    (first
      | (go_at_call_of 46 (Value.pointer ur); refine (join_at HUR.out HU.out x (by exact inT_drewN Hr.out) (by exact inT_drewN HR.out) (by omega)).mono ?_; rintro e w1 ⟨rfl, hT1, hB1⟩; have k0 : w1.cell? ⟨b, 0, none⟩ = some (.string a) := (hB1.cell (p := ⟨b, 0, none⟩) hblt).trans c0; have k2 : w1.cell? ⟨b, 2, none⟩ = some (.pointer ul) := (hB1.cell (p := ⟨b, 2, none⟩) hblt).trans c2; have hlt1 : b < w1.heap.size := World.block_lt_of_cell? _ _ k0; have HT1 := hide hT1; have HB1 := hide hB1; clear hT1 hB1)
      | (go_at_call_of 46 (Value.pointer ul); refine (join_at (R := .node _ 0 x Lr R) HUL.out rfl a (by exact InT.below HB1.out (inT_drewN Hl.out)) (by exact HT1.out) (by simp [lst]; omega)).mono ?_; rintro e w2 ⟨rfl, hT2, hB2⟩; have j0 : w2.cell? ⟨b, 0, none⟩ = some (.string a) := (hB2.cell (p := ⟨b, 0, none⟩) hlt1).trans k0; have j2 : w2.cell? ⟨b, 2, none⟩ = some (.pointer ul) := (hB2.cell (p := ⟨b, 2, none⟩) hlt1).trans k2; have HT2 := hide hT2; have HB2 := hide hB2; clear hT2 hB2))
  go_wp2
  go_ret
  exact ⟨.node _ 0 a Ll (.node _ 0 x Lr R), rfl, HT2.out, (below_drew HB1.out).trans (HB2.out.mono (below_drew HB1.out).size), by simp [lst]⟩

set_option maxHeartbeats 2000000 in
theorem turnRight_two (R l2 r2 Ll : BT ByteArray) (x a a2 : ByteArray) (b b2 : Nat) (w : World) (hR : InT eS w R) (hL : InT eS w (.node b 0 a Ll (.node b2 0 a2 l2 r2))) (hb : (lst R).length + 3 + (lst l2).length + (lst r2).length + (lst Ll).length ≤ 4611686018427387) (hlt : ¬ (lst (.node b2 0 a2 l2 r2)).length < 2 * (lst Ll).length) :
    Calls Try.prog 70 #[.pointer (some ⟨b, 0, none⟩), .string x, R.ptr] w (Tree w (lst (.node b 0 a Ll (.node b2 0 a2 l2 r2)) ++ x :: lst R)) := by
  have hblt := inT_lt hL
  obtain ⟨_, c0, c1, c2, c3, hl, hr⟩ := hL
  have hblt2 := inT_lt hr
  have Hr : Hid (InT eS w (.node b2 0 a2 l2 r2)) := hr
  obtain ⟨_, d0, d1, d2, d3, hl2, hr2⟩ := hr
  obtain ⟨u, hu⟩ := ptr_pointer R
  obtain ⟨ul, hul⟩ := ptr_pointer l2
  obtain ⟨um, hum⟩ := ptr_pointer r2
  obtain ⟨ur, hur⟩ := ptr_pointer Ll
  rw [hu]
  have c3' : w.cell? ⟨b, 3, none⟩ = some (.pointer (some ⟨b2, 0, none⟩)) := c3
  rw [hul] at d2
  rw [hum] at d3
  rw [hur] at c2
  have HU := hide hu
  have HUL := hide hul
  have HUM := hide hum
  have HUR := hide hur
  have HR : Hid (InT eS w R) := hR
  have Hl2 : Hid (InT eS w l2) := hl2
  have Hr2 : Hid (InT eS w r2) := hr2
  have Hl : Hid (InT eS w Ll) := hl
  have hq : ¬ ((lst (.node b2 0 a2 l2 r2)).length : Int) < 2 * ((lst Ll).length : Int) := by omega
  have hqs : (lst (.node b2 0 a2 l2 r2)).length ≤ 4611686018427387 := by simp [lst]; omega
  clear hu hul hum hur hR hl2 hr2 hl c1 c3 d1 hlt
  go_enter Try.func70, Try.ntmps70
  go_wp2_with fail
  go_quiet (first
    | (go_at_call_of 34 (Value.pointer (some ⟨b2, 0, none⟩)); refine Calls.quiet_of_same (size_at (T := .node b2 0 a2 l2 r2) rfl ?_); exact inT_drewN Hr.out)
    | (go_at_call_of 34 (Value.pointer ur); refine Calls.quiet_of_same (size_at HUR.out ?_); exact inT_drewN Hl.out))
  go_wp2_with fail
  clear c3'
  go_region_held3 (fun w' => w'.cell? ⟨b, 0, none⟩ = some (.string a) ∧ w'.cell? ⟨b, 2, none⟩ = some (.pointer ur) ∧ w'.cell? ⟨b2, 0, none⟩ = some (.string a2) ∧ w'.cell? ⟨b2, 2, none⟩ = some (.pointer ul) ∧ w'.cell? ⟨b2, 3, none⟩ = some (.pointer um)) (first | exact ⟨by assumption, by assumption, by assumption, by assumption, by assumption⟩ | go_keep)
    (first
      | (go_at_call_of 46 (Value.pointer ul); refine (join_at HUR.out HUL.out a (by exact inT_drewN Hl.out) (by exact inT_drewN Hl2.out) (by omega)).mono ?_; rintro e w1 ⟨rfl, hT1, hB1⟩; have k0 : w1.cell? ⟨b, 0, none⟩ = some (.string a) := (hB1.cell (p := ⟨b, 0, none⟩) hblt).trans c0; have k2 : w1.cell? ⟨b, 2, none⟩ = some (.pointer ur) := (hB1.cell (p := ⟨b, 2, none⟩) hblt).trans c2; have i0 : w1.cell? ⟨b2, 0, none⟩ = some (.string a2) := (hB1.cell (p := ⟨b2, 0, none⟩) hblt2).trans d0; have i2 : w1.cell? ⟨b2, 2, none⟩ = some (.pointer ul) := (hB1.cell (p := ⟨b2, 2, none⟩) hblt2).trans d2; have i3 : w1.cell? ⟨b2, 3, none⟩ = some (.pointer um) := (hB1.cell (p := ⟨b2, 3, none⟩) hblt2).trans d3; have hlt1 : b < w1.heap.size := World.block_lt_of_cell? _ _ k0; have hlt2 : b2 < w1.heap.size := World.block_lt_of_cell? _ _ i0; have HT1 := hide hT1; have HB1 := hide hB1; clear hT1 hB1)
      | (go_at_call_of 46 (Value.pointer um); refine (join_at HUM.out HU.out x (by exact InT.below HB1.out (inT_drewN Hr2.out)) (by exact InT.below HB1.out (inT_drewN HR.out)) (by omega)).mono ?_; rintro e w2 ⟨rfl, hT2, hB2⟩; have j0 : w2.cell? ⟨b, 0, none⟩ = some (.string a) := (hB2.cell (p := ⟨b, 0, none⟩) hlt1).trans k0; have j2 : w2.cell? ⟨b, 2, none⟩ = some (.pointer ur) := (hB2.cell (p := ⟨b, 2, none⟩) hlt1).trans k2; have f0 : w2.cell? ⟨b2, 0, none⟩ = some (.string a2) := (hB2.cell (p := ⟨b2, 0, none⟩) hlt2).trans i0; have f2 : w2.cell? ⟨b2, 2, none⟩ = some (.pointer ul) := (hB2.cell (p := ⟨b2, 2, none⟩) hlt2).trans i2; have f3 : w2.cell? ⟨b2, 3, none⟩ = some (.pointer um) := (hB2.cell (p := ⟨b2, 3, none⟩) hlt2).trans i3; have hlt3 : b < w2.heap.size := World.block_lt_of_cell? _ _ j0; have hlt4 : b2 < w2.heap.size := World.block_lt_of_cell? _ _ f0; have HT2 := hide hT2; have HB2 := hide hB2; clear hT2 hB2)
      | (go_at_call_of 46 (Value.string a2); refine (join_at (L := .node _ 0 a Ll l2) (R := .node _ 0 x r2 R) rfl rfl a2 (by exact InT.below HB2.out HT1.out) (by exact HT2.out) (by simp [lst]; omega)).mono ?_; rintro e w3 ⟨rfl, hT3, hB3⟩; have j0' : w3.cell? ⟨b, 0, none⟩ = some (.string a) := (hB3.cell (p := ⟨b, 0, none⟩) hlt3).trans j0; have j2' : w3.cell? ⟨b, 2, none⟩ = some (.pointer ur) := (hB3.cell (p := ⟨b, 2, none⟩) hlt3).trans j2; have f0' : w3.cell? ⟨b2, 0, none⟩ = some (.string a2) := (hB3.cell (p := ⟨b2, 0, none⟩) hlt4).trans f0; have f2' : w3.cell? ⟨b2, 2, none⟩ = some (.pointer ul) := (hB3.cell (p := ⟨b2, 2, none⟩) hlt4).trans f2; have f3' : w3.cell? ⟨b2, 3, none⟩ = some (.pointer um) := (hB3.cell (p := ⟨b2, 3, none⟩) hlt4).trans f3; have HT3 := hide hT3; have HB3 := hide hB3; clear hT3 hB3))
  go_wp2
  go_ret
  exact ⟨.node _ 0 a2 (.node _ 0 a Ll l2) (.node _ 0 x r2 R), rfl, HT3.out, ((below_drew HB1.out).trans (HB2.out.mono (below_drew HB1.out).size)).trans (HB3.out.mono (Nat.le_trans (below_drew HB1.out).size HB2.out.size)), by simp [lst]⟩
end Go.Proofs.Ytkncboinfcnklaa.Str
