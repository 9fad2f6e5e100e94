import Derived.Test.YtkncboinfcnklabGreatDoorQ4
namespace Go.Proofs.YtkncboinfcnklabGreatDoor.WI
open Go.RowKit Go.Deep Mth

set_option maxHeartbeats 1000000 in
theorem turnRight_one (R Ll Lr : BT Int) (x a : Int) (b : Nat) (w : World) (hR : InT eI w R) (hL : InT eI w (.node b 0 a Ll Lr)) (hb : (lst R).length + 2 + (lst Ll).length + (lst Lr).length ≤ 4611686018427387) (hlt : (lst Lr).length < 2 * (lst Ll).length) :
    Calls Tryz.prog 154 #[.pointer (some ⟨b, 0, none⟩), .int .i64 x, R.ptr] w (Tree w (lst (.node b 0 a Ll Lr) ++ x :: lst R)) := by
  have hblt := inT_lt hL
  obtain ⟨_, c0, c1, c2, c3, hl, hr⟩ := hL
  obtain ⟨u, hu⟩ := ptr_pointer R
  obtain ⟨ul, hul⟩ := ptr_pointer Ll
  obtain ⟨ur, hur⟩ := ptr_pointer Lr
  rw [hu]
  rw [hul] at c2
  rw [hur] at c3
  have HU := hide hu
  have HUL := hide hul
  have HUR := hide hur
  have HR : Hid (InT eI w R) := hR
  have Hl : Hid (InT eI w Ll) := hl
  have Hr : Hid (InT eI w Lr) := hr
  have hq : ((lst Lr).length : Int) < 2 * ((lst Ll).length : Int) := by omega
  clear hu hul hur hR hl hr c1 hlt
  go_enter Tryz.func154, Tryz.ntmps154
  go_wp2_with fail
  go_quiet (first
    | (go_at_call_of 78 (Value.pointer ul); refine Calls.quiet_of_same (size_at HUL.out ?_); exact inT_drewN Hl.out)
    | (go_at_call_of 78 (Value.pointer ur); refine Calls.quiet_of_same (size_at HUR.out ?_); exact inT_drewN Hr.out))
  go_wp2_with fail
  clear c3
  go_region_held3 (fun w' => w'.cell? ⟨b, 0, none⟩ = some (.int .i64 a) ∧ w'.cell? ⟨b, 2, none⟩ = some (.pointer ul)) (first | exact ⟨by assumption, by assumption⟩ | go_keep)
    (first
      | (go_at_call_of 126 (Value.pointer ur); refine (join_at HUR.out HU.out x (by exact inT_drewN Hr.out) (by exact inT_drewN HR.out) (by omega)).mono ?_; rintro e w1 ⟨rfl, hT1, hB1⟩; have k0 : w1.cell? ⟨b, 0, none⟩ = some (.int .i64 a) := (hB1.cell (p := ⟨b, 0, none⟩) hblt).trans c0; have k2 : w1.cell? ⟨b, 2, none⟩ = some (.pointer ul) := (hB1.cell (p := ⟨b, 2, none⟩) hblt).trans c2; have hlt1 : b < w1.heap.size := World.block_lt_of_cell? _ _ k0; have HT1 := hide hT1; have HB1 := hide hB1; clear hT1 hB1)
      | (go_at_call_of 126 (Value.pointer ul); refine (join_at (R := .node _ 0 x Lr R) HUL.out rfl a (by exact InT.below HB1.out (inT_drewN Hl.out)) (by exact HT1.out) (by simp [lst]; omega)).mono ?_; rintro e w2 ⟨rfl, hT2, hB2⟩; have j0 : w2.cell? ⟨b, 0, none⟩ = some (.int .i64 a) := (hB2.cell (p := ⟨b, 0, none⟩) hlt1).trans k0; have j2 : w2.cell? ⟨b, 2, none⟩ = some (.pointer ul) := (hB2.cell (p := ⟨b, 2, none⟩) hlt1).trans k2; have HT2 := hide hT2; have HB2 := hide hB2; clear hT2 hB2))
  go_wp2
  go_ret
  exact ⟨.node _ 0 a Ll (.node _ 0 x Lr R), rfl, HT2.out, (below_drew HB1.out).trans (HB2.out.mono (below_drew HB1.out).size), by simp [lst]⟩

set_option maxHeartbeats 2000000 in
theorem turnRight_two (R l2 r2 Ll : BT Int) (x a a2 : Int) (b b2 : Nat) (w : World) (hR : InT eI w R) (hL : InT eI w (.node b 0 a Ll (.node b2 0 a2 l2 r2))) (hb : (lst R).length + 3 + (lst l2).length + (lst r2).length + (lst Ll).length ≤ 4611686018427387) (hlt : ¬ (lst (.node b2 0 a2 l2 r2)).length < 2 * (lst Ll).length) :
    Calls Tryz.prog 154 #[.pointer (some ⟨b, 0, none⟩), .int .i64 x, R.ptr] w (Tree w (lst (.node b 0 a Ll (.node b2 0 a2 l2 r2)) ++ x :: lst R)) := by
  have hblt := inT_lt hL
  obtain ⟨_, c0, c1, c2, c3, hl, hr⟩ := hL
  have hblt2 := inT_lt hr
  have Hr : Hid (InT eI w (.node b2 0 a2 l2 r2)) := hr
  obtain ⟨_, d0, d1, d2, d3, hl2, hr2⟩ := hr
  obtain ⟨u, hu⟩ := ptr_pointer R
  obtain ⟨ul, hul⟩ := ptr_pointer l2
  obtain ⟨um, hum⟩ := ptr_pointer r2
  obtain ⟨ur, hur⟩ := ptr_pointer Ll
  rw [hu]
  have c3' : w.cell? ⟨b, 3, none⟩ = some (.pointer (some ⟨b2, 0, none⟩)) := c3
  rw [hul] at d2
  rw [hum] at d3
  rw [hur] at c2
  have HU := hide hu
  have HUL := hide hul
  have HUM := hide hum
  have HUR := hide hur
  have HR : Hid (InT eI w R) := hR
  have Hl2 : Hid (InT eI w l2) := hl2
  have Hr2 : Hid (InT eI w r2) := hr2
  have Hl : Hid (InT eI w Ll) := hl
  have hq : ¬ ((lst (.node b2 0 a2 l2 r2)).length : Int) < 2 * ((lst Ll).length : Int) := by omega
  have hqs : (lst (.node b2 0 a2 l2 r2)).length ≤ 4611686018427387 := by simp [lst]; omega
  clear hu hul hum hur hR hl2 hr2 hl c1 c3 d1 hlt
  go_enter Tryz.func154, Tryz.ntmps154
  go_wp2_with fail
  go_quiet (first
    | (go_at_call_of 78 (Value.pointer (some ⟨b2, 0, none⟩)); refine Calls.quiet_of_same (size_at (T := .node b2 0 a2 l2 r2) rfl ?_); exact inT_drewN Hr.out)
    | (go_at_call_of 78 (Value.pointer ur); refine Calls.quiet_of_same (size_at HUR.out ?_); exact inT_drewN Hl.out))
  go_wp2_with fail
  clear c3'
  go_region_held3 (fun w' => w'.cell? ⟨b, 0, none⟩ = some (.int .i64 a) ∧ w'.cell? ⟨b, 2, none⟩ = some (.pointer ur) ∧ w'.cell? ⟨b2, 0, none⟩ = some (.int .i64 a2) ∧ w'.cell? ⟨b2, 2, none⟩ = some (.pointer ul) ∧ w'.cell? ⟨b2, 3, none⟩ = some (.pointer um)) (first | exact ⟨by assumption, by assumption, by assumption, by assumption, by assumption⟩ | go_keep)
    (first
      | (go_at_call_of 126 (Value.pointer ul); refine (join_at HUR.out HUL.out a (by exact inT_drewN Hl.out) (by exact inT_drewN Hl2.out) (by omega)).mono ?_; rintro e w1 ⟨rfl, hT1, hB1⟩; have k0 : w1.cell? ⟨b, 0, none⟩ = some (.int .i64 a) := (hB1.cell (p := ⟨b, 0, none⟩) hblt).trans c0; have k2 : w1.cell? ⟨b, 2, none⟩ = some (.pointer ur) := (hB1.cell (p := ⟨b, 2, none⟩) hblt).trans c2; have i0 : w1.cell? ⟨b2, 0, none⟩ = some (.int .i64 a2) := (hB1.cell (p := ⟨b2, 0, none⟩) hblt2).trans d0; have i2 : w1.cell? ⟨b2, 2, none⟩ = some (.pointer ul) := (hB1.cell (p := ⟨b2, 2, none⟩) hblt2).trans d2; have i3 : w1.cell? ⟨b2, 3, none⟩ = some (.pointer um) := (hB1.cell (p := ⟨b2, 3, none⟩) hblt2).trans d3; have hlt1 : b < w1.heap.size := World.block_lt_of_cell? _ _ k0; have hlt2 : b2 < w1.heap.size := World.block_lt_of_cell? _ _ i0; have HT1 := hide hT1; have HB1 := hide hB1; clear hT1 hB1)
      | (go_at_call_of 126 (Value.pointer um); refine (join_at HUM.out HU.out x (by exact InT.below HB1.out (inT_drewN Hr2.out)) (by exact InT.below HB1.out (inT_drewN HR.out)) (by omega)).mono ?_; rintro e w2 ⟨rfl, hT2, hB2⟩; have j0 : w2.cell? ⟨b, 0, none⟩ = some (.int .i64 a) := (hB2.cell (p := ⟨b, 0, none⟩) hlt1).trans k0; have j2 : w2.cell? ⟨b, 2, none⟩ = some (.pointer ur) := (hB2.cell (p := ⟨b, 2, none⟩) hlt1).trans k2; have f0 : w2.cell? ⟨b2, 0, none⟩ = some (.int .i64 a2) := (hB2.cell (p := ⟨b2, 0, none⟩) hlt2).trans i0; have f2 : w2.cell? ⟨b2, 2, none⟩ = some (.pointer ul) := (hB2.cell (p := ⟨b2, 2, none⟩) hlt2).trans i2; have f3 : w2.cell? ⟨b2, 3, none⟩ = some (.pointer um) := (hB2.cell (p := ⟨b2, 3, none⟩) hlt2).trans i3; have hlt3 : b < w2.heap.size := World.block_lt_of_cell? _ _ j0; have hlt4 : b2 < w2.heap.size := World.block_lt_of_cell? _ _ f0; have HT2 := hide hT2; have HB2 := hide hB2; clear hT2 hB2)
      | (go_at_call_of 126 (Value.int .i64 a2); refine (join_at (L := .node _ 0 a Ll l2) (R := .node _ 0 x r2 R) rfl rfl a2 (by exact InT.below HB2.out HT1.out) (by exact HT2.out) (by simp [lst]; omega)).mono ?_; rintro e w3 ⟨rfl, hT3, hB3⟩; have j0' : w3.cell? ⟨b, 0, none⟩ = some (.int .i64 a) := (hB3.cell (p := ⟨b, 0, none⟩) hlt3).trans j0; have j2' : w3.cell? ⟨b, 2, none⟩ = some (.pointer ur) := (hB3.cell (p := ⟨b, 2, none⟩) hlt3).trans j2; have f0' : w3.cell? ⟨b2, 0, none⟩ = some (.int .i64 a2) := (hB3.cell (p := ⟨b2, 0, none⟩) hlt4).trans f0; have f2' : w3.cell? ⟨b2, 2, none⟩ = some (.pointer ul) := (hB3.cell (p := ⟨b2, 2, none⟩) hlt4).trans f2; have f3' : w3.cell? ⟨b2, 3, none⟩ = some (.pointer um) := (hB3.cell (p := ⟨b2, 3, none⟩) hlt4).trans f3; have HT3 := hide hT3; have HB3 := hide hB3; clear hT3 hB3))
  go_wp2
  go_ret
  exact ⟨.node _ 0 a2 (.node _ 0 a Ll l2) (.node _ 0 x r2 R), rfl, HT3.out, ((below_drew HB1.out).trans (HB2.out.mono (below_drew HB1.out).size)).trans (HB3.out.mono (Nat.le_trans (below_drew HB1.out).size HB2.out.size)), by simp [lst]⟩
end Go.Proofs.YtkncboinfcnklabGreatDoor.WI

namespace Go.Proofs.YtkncboinfcnklabGreatDoor.WI
open Go.RowKit Go.Deep Mth

theorem turnLeft_any (L R : BT Int) (x : Int) (w : World) (hL : InT eI w L) (hR : InT eI w R) (hb : (lst L).length + 1 + (lst R).length ≤ 4611686018427) (hgt : 3 * (lst L).length < (lst R).length) (h2 : 2 ≤ (lst L).length + (lst R).length) :
    Calls Tryz.prog 153 #[L.ptr, .int .i64 x, R.ptr] w (Tree w (lst L ++ x :: lst R)) := by
  cases R with
  | nil => simp [lst] at hgt
  | node b o a Rl Rr =>
    have ho : o = 0 := hR.1
    subst ho
    have hlen : (lst (.node b 0 a Rl Rr)).length = (lst Rl).length + 1 + (lst Rr).length := by simp [lst]; omega
    rw [hlen] at hb hgt h2
    clear hlen
    by_cases c : (lst Rl).length < 2 * (lst Rr).length
    · exact turnLeft_one L Rl Rr x a b w hL hR (by omega) c
    · cases Rl with
      | nil => exfalso; simp only [lst, List.length_nil] at c hb hgt h2; omega
      | node b2 o2 a2 l2 r2 =>
        have ho : o2 = 0 := hR.2.2.2.2.2.1.1
        subst ho
        have hlen : (lst (.node b2 0 a2 l2 r2)).length = (lst l2).length + 1 + (lst r2).length := by simp [lst]; omega
        exact turnLeft_two L l2 r2 Rr x a a2 b b2 w hL hR (by omega) c

theorem turnRight_any (L R : BT Int) (x : Int) (w : World) (hL : InT eI w L) (hR : InT eI w R) (hb : (lst L).length + 1 + (lst R).length ≤ 4611686018427) (hgt : 3 * (lst R).length < (lst L).length) (h2 : 2 ≤ (lst L).length + (lst R).length) :
    Calls Tryz.prog 154 #[L.ptr, .int .i64 x, R.ptr] w (Tree w (lst L ++ x :: lst R)) := by
  cases L with
  | nil => simp [lst] at hgt
  | node b o a Ll Lr =>
    have ho : o = 0 := hL.1
    subst ho
    have hlen : (lst (.node b 0 a Ll Lr)).length = (lst Ll).length + 1 + (lst Lr).length := by simp [lst]; omega
    rw [hlen] at hb hgt h2
    clear hlen
    by_cases c : (lst Lr).length < 2 * (lst Ll).length
    · exact turnRight_one R Ll Lr x a b w hR hL (by omega) c
    · cases Lr with
      | nil => exfalso; simp only [lst, List.length_nil] at c hb hgt h2; omega
      | node b2 o2 a2 l2 r2 =>
        have ho : o2 = 0 := hL.2.2.2.2.2.2.1
        subst ho
        have hlen : (lst (.node b2 0 a2 l2 r2)).length = (lst l2).length + 1 + (lst r2).length := by simp [lst]; omega
        exact turnRight_two R l2 r2 Ll x a a2 b b2 w hR hL (by omega) c

theorem join_tree (L R : BT Int) (x : Int) (w : World) (hL : InT eI w L) (hR : InT eI w R) (hb : (lst L).length + 1 + (lst R).length ≤ 4611686018427) :
    Calls Tryz.prog 126 #[L.ptr, .int .i64 x, R.ptr] w (Tree w (lst L ++ x :: lst R)) := by
  refine (join_any L R x w hL hR (by omega)).mono ?_
  rintro e w' ⟨rfl, hT, hB⟩
  exact ⟨.node w.heap.size 0 x L R, rfl, hT, hB, rfl⟩

set_option maxHeartbeats 1000000 in
theorem balance_core (u v : Option Addr) (m n : Nat) (x : Int) (w : World) (Q : Ending → World → Prop) (hm : m ≤ 4611686018427) (hn : n ≤ 4611686018427)
    (sL : Hid (Calls Tryz.prog 78 #[.pointer u] w fun e w' => e = .returned (.int .i64 m) ∧ w' = w)) (sR : Hid (Calls Tryz.prog 78 #[.pointer v] w fun e w' => e = .returned (.int .i64 n) ∧ w' = w))
    (jn : Hid (Calls Tryz.prog 126 #[.pointer u, .int .i64 x, .pointer v] w fun e w' => (∃ p, e = .returned (.pointer p)) ∧ Q e w'))
    (tl : Hid (3 * m < n → 2 ≤ m + n → Calls Tryz.prog 153 #[.pointer u, .int .i64 x, .pointer v] w fun e w' => (∃ p, e = .returned (.pointer p)) ∧ Q e w'))
    (tr : Hid (3 * n < m → 2 ≤ m + n → Calls Tryz.prog 154 #[.pointer u, .int .i64 x, .pointer v] w fun e w' => (∃ p, e = .returned (.pointer p)) ∧ Q e w')) :
    Calls Tryz.prog 128 #[.pointer u, .int .i64 x, .pointer v] w Q := by
  go_enter Tryz.func128, Tryz.ntmps128
  go_wp2_with fail
  refine sL.out.mono ?_
  rintro e w' ⟨rfl, hw⟩
  subst hw
  go_wp2_with fail
  refine sR.out.mono ?_
  rintro e w' ⟨rfl, hw⟩
  subst hw
  go_wp2_with (first
    | (go_at_call 126; refine jn.out.mono ?_; rintro e w1 ⟨⟨p, rfl⟩, hQ⟩)
    | (go_at_call 153; refine (tl.out (by omega) (by omega)).mono ?_; rintro e w1 ⟨⟨p, rfl⟩, hQ⟩)
    | (go_at_call 154; refine (tr.out (by omega) (by omega)).mono ?_; rintro e w1 ⟨⟨p, rfl⟩, hQ⟩))


  all_goals exact hQ

theorem tree_pointer {w : World} {l : List Int} {e : Ending} {w' : World} (h : Tree w l e w') : (∃ p, e = .returned (.pointer p)) ∧ Tree w l e w' := by
  refine ⟨?_, h⟩
  obtain ⟨T, rfl, _⟩ := h
  obtain ⟨p, hp⟩ := ptr_pointer T
  exact ⟨p, by rw [hp]⟩

theorem balance_any (L R : BT Int) (x : Int) (w : World) (hL : InT eI w L) (hR : InT eI w R) (hb : (lst L).length + 1 + (lst R).length ≤ 4611686018427) :
    Calls Tryz.prog 128 #[L.ptr, .int .i64 x, R.ptr] w (Tree w (lst L ++ x :: lst R)) := by
  have sL := size_any L w hL
  have sR := size_any R w hR
  have jn := (join_tree L R x w hL hR hb).mono fun e w' h => tree_pointer h
  have tl := fun h1 h2 => (turnLeft_any L R x w hL hR hb h1 h2).mono fun e w' h => tree_pointer h
  have tr := fun h1 h2 => (turnRight_any L R x w hL hR hb h1 h2).mono fun e w' h => tree_pointer h
  obtain ⟨u, hu⟩ := ptr_pointer L
  obtain ⟨v, hv⟩ := ptr_pointer R
  rw [hu] at sL
  rw [hv] at sR
  simp only [hu, hv] at jn tl tr ⊢
  exact balance_core u v _ _ x w _ (by omega) (by omega) sL sR jn tl tr

set_option maxHeartbeats 400000 in
theorem less_any (x y : Int) (w : World) : Calls Tryz.prog 127 #[.int .i64 x, .int .i64 y] w fun e w' => e = .returned (.bool (decide (x < y))) ∧ w' = w := by
  go_enter Tryz.func127, Tryz.ntmps127
  go_wp2

  all_goals go_ret
  all_goals exact ⟨by simp, rfl⟩
end Go.Proofs.YtkncboinfcnklabGreatDoor.WI

namespace Go.Proofs.YtkncboinfcnklabGreatDoor.WI
open Go.RowKit Go.Deep Mth

set_option maxHeartbeats 400000 in
theorem cmp_lt (x y : Int) (w : World) (h : x < y) : Calls Tryz.prog 101 #[.int .i64 x, .int .i64 y] w fun e w' => e = .returned (.int .i64 (-1)) ∧ w' = w := by
  go_enter Tryz.func101, Tryz.ntmps101
  go_wp2
  go_ret
  exact ⟨rfl, rfl⟩

set_option maxHeartbeats 400000 in
theorem cmp_gt (x y : Int) (w : World) (h : y < x) : Calls Tryz.prog 101 #[.int .i64 x, .int .i64 y] w fun e w' => e = .returned (.int .i64 1) ∧ w' = w := by
  have h' : ¬ x < y := by omega
  go_enter Tryz.func101, Tryz.ntmps101
  go_wp2
  go_ret
  exact ⟨rfl, rfl⟩

set_option maxHeartbeats 400000 in
theorem cmp_eq (x : Int) (w : World) : Calls Tryz.prog 101 #[.int .i64 x, .int .i64 x] w fun e w' => e = .returned (.int .i64 0) ∧ w' = w := by
  have h' : ¬ x < x := by omega
  go_enter Tryz.func101, Tryz.ntmps101
  go_wp2
  go_ret
  exact ⟨rfl, rfl⟩

/-- What a call that makes a tree of a list leaves, its pointer written out. -/
def TreeP (w : World) (l : List Int) (e : Ending) (w' : World) : Prop := ∃ p, ∃ T : BT Int, e = .returned (.pointer p) ∧ T.ptr = .pointer p ∧ InT eI w' T ∧ Below w.heap.size w w' ∧ lst T = l

theorem balance_at {L R : BT Int} {u v : Option Addr} (hu : L.ptr = .pointer u) (hv : R.ptr = .pointer v) (x : Int) {w : World} (hL : InT eI w L) (hR : InT eI w R) (hb : (lst L).length + 1 + (lst R).length ≤ 4611686018427) :
    Calls Tryz.prog 128 #[.pointer u, .int .i64 x, .pointer v] w (TreeP w (lst L ++ x :: lst R)) := by
  have := balance_any L R x w hL hR hb
  rw [hu, hv] at this
  refine this.mono ?_
  rintro e w' ⟨T, rfl, h1, h2, h3⟩
  obtain ⟨p, hp⟩ := ptr_pointer T
  exact ⟨p, T, by rw [hp], hp, h1, h2, h3⟩

/-- What 'with' leaves. -/
def PutP (w : World) (l : List Int) (x : Int) (e : Ending) (w' : World) : Prop := ∃ p, ∃ T : BT Int, e = .returned (.pointer p) ∧ T.ptr = .pointer p ∧ InT eI w' T ∧ Below w.heap.size w w' ∧ Put (fun a b : Int => a < b) l x (lst T)

def WithSaid (x : Int) (T : BT Int) : Prop := ∀ (u : Option Addr) (w : World), T.ptr = .pointer u → InT eI w T → (lst T).Pairwise (fun a b : Int => a < b) → ¬ x ∈ lst T → (lst T).length + 1 ≤ 4611686018427 →
  Calls Tryz.prog 106 #[.pointer u, .int .i64 x] w (PutP w (lst T) x)

set_option maxHeartbeats 400000 in
theorem with_nil (x : Int) : WithSaid x .nil := by
  intro u w hu _ _ _ _
  have hu' : u = none := by
    have : Value.pointer none = .pointer u := hu
    injection this with h
    exact h.symm
  subst hu'
  clear hu
  go_enter Tryz.func106, Tryz.ntmps106
  go_wp2_with fail
  refine (join_at (L := .nil) (R := .nil) rfl rfl x trivial trivial (by simp [lst])).mono ?_
  rintro e w1 ⟨rfl, hT1, hB1⟩
  have HT1 := hide hT1
  have HB1 := hide hB1
  clear hT1 hB1
  go_wp2
  go_ret
  exact ⟨_, .node _ 0 x .nil .nil, rfl, rfl, HT1.out, HB1.out, put_nil x⟩

set_option maxHeartbeats 1000000 in
theorem with_left (x a : Int) (b : Nat) (l r : BT Int) (ih : WithSaid x l) (u : Option Addr) (w : World) (hu : (BT.node b 0 a l r).ptr = .pointer u) (h : InT eI w (.node b 0 a l r)) (hup : (lst (.node b 0 a l r)).Pairwise (fun a b : Int => a < b)) (hx : ¬ x ∈ lst (.node b 0 a l r)) (hb : (lst (.node b 0 a l r)).length + 1 ≤ 4611686018427) (hxa : x < a) :
    Calls Tryz.prog 106 #[.pointer u, .int .i64 x] w (PutP w (lst (.node b 0 a l r)) x) := by
  have hu' : u = some ⟨b, 0, none⟩ := by
    have : Value.pointer (some ⟨b, 0, none⟩) = .pointer u := hu
    injection this with h
    exact h.symm
  subst hu'
  have hblt := inT_lt h
  obtain ⟨_, c0, c1, c2, c3, hl, hr⟩ := h
  obtain ⟨ul, hul⟩ := ptr_pointer l
  obtain ⟨ur, hur⟩ := ptr_pointer r
  rw [hul] at c2
  rw [hur] at c3
  have hlen : (lst (.node b 0 a l r)).length = (lst l).length + 1 + (lst r).length := by simp [lst]; omega
  rw [hlen] at hb
  have HUR := hide hur
  have Hr : Hid (InT eI w r) := hr
  have IH : Hid (∀ n, Calls Tryz.prog 106 #[.pointer ul, .int .i64 x] (w.drewN n) (PutP (w.drewN n) (lst l) x)) :=
    fun n => ih ul _ hul (inT_drewN hl) (by have := hup; rw [lst, List.pairwise_append] at this; exact this.1) (fun hm => hx (by rw [lst]; simp [hm])) (by omega)
  have HUP := hide hup
  clear hu ih hul hur hl hr c1 hup hx hlen
  go_enter Tryz.func106, Tryz.ntmps106
  go_wp2_with (go_at_call 127; refine (less_any _ _ _).mono ?_; rintro e w' ⟨rfl, rfl⟩)
  go_region_held3 (fun w' => w'.cell? ⟨b, 0, none⟩ = some (.int .i64 a) ∧ w'.cell? ⟨b, 2, none⟩ = some (.pointer ul) ∧ w'.cell? ⟨b, 3, none⟩ = some (.pointer ur)) (first | exact ⟨by assumption, by assumption, by assumption⟩ | go_keep)
    (first
      | (go_at_call 106; refine (IH.out 1).mono ?_; rintro e w1 ⟨p1, T1, rfl, hp1, hT1, hB1, hP1⟩; have k0 : w1.cell? ⟨b, 0, none⟩ = some (.int .i64 a) := (hB1.cell (p := ⟨b, 0, none⟩) hblt).trans c0; have k2 : w1.cell? ⟨b, 2, none⟩ = some (.pointer ul) := (hB1.cell (p := ⟨b, 2, none⟩) hblt).trans c2; have k3 : w1.cell? ⟨b, 3, none⟩ = some (.pointer ur) := (hB1.cell (p := ⟨b, 3, none⟩) hblt).trans c3; have hlt1 : b < w1.heap.size := World.block_lt_of_cell? _ _ k0; have hn1 := hP1.2.2; have HT1 := hide hT1; have HB1 := hide hB1; have HP1 := hide hP1; have Hp1 := hide hp1; clear hT1 hB1 hP1 hp1)
      | (go_at_call 128; refine (balance_at Hp1.out HUR.out a (by exact HT1.out) (by exact InT.below HB1.out (inT_drewN Hr.out)) (by omega)).mono ?_; rintro e w2 ⟨p2, T2, rfl, hp2, hT2, hB2, hL2⟩; have j0 : w2.cell? ⟨b, 0, none⟩ = some (.int .i64 a) := (hB2.cell (p := ⟨b, 0, none⟩) hlt1).trans k0; have j2 : w2.cell? ⟨b, 2, none⟩ = some (.pointer ul) := (hB2.cell (p := ⟨b, 2, none⟩) hlt1).trans k2; have j3 : w2.cell? ⟨b, 3, none⟩ = some (.pointer ur) := (hB2.cell (p := ⟨b, 3, none⟩) hlt1).trans k3; have HT2 := hide hT2; have HB2 := hide hB2; have HL2 := hide hL2; have Hp2 := hide hp2; clear hT2 hB2 hL2 hp2))
  go_wp2
  go_ret
  exact ⟨p2, T2, rfl, Hp2.out, HT2.out, (below_drew HB1.out).trans (HB2.out.mono (below_drew HB1.out).size), by rw [HL2.out, lst]; exact put_left (by have := HUP.out; rwa [lst] at this) sordInt hxa HP1.out⟩
end Go.Proofs.YtkncboinfcnklabGreatDoor.WI

namespace Go.Proofs.YtkncboinfcnklabGreatDoor.WI
open Go.RowKit Go.Deep Mth

set_option maxHeartbeats 1000000 in
theorem with_right (x a : Int) (b : Nat) (l r : BT Int) (ih : WithSaid x r) (u : Option Addr) (w : World) (hu : (BT.node b 0 a l r).ptr = .pointer u) (h : InT eI w (.node b 0 a l r)) (hup : (lst (.node b 0 a l r)).Pairwise (fun a b : Int => a < b)) (hx : ¬ x ∈ lst (.node b 0 a l r)) (hb : (lst (.node b 0 a l r)).length + 1 ≤ 4611686018427) (hxa : a < x) :
    Calls Tryz.prog 106 #[.pointer u, .int .i64 x] w (PutP w (lst (.node b 0 a l r)) x) := by
  have hu' : u = some ⟨b, 0, none⟩ := by
    have : Value.pointer (some ⟨b, 0, none⟩) = .pointer u := hu
    injection this with h
    exact h.symm
  subst hu'
  have hblt := inT_lt h
  obtain ⟨_, c0, c1, c2, c3, hl, hr⟩ := h
  obtain ⟨ul, hul⟩ := ptr_pointer l
  obtain ⟨ur, hur⟩ := ptr_pointer r
  rw [hul] at c2
  rw [hur] at c3
  have hlen : (lst (.node b 0 a l r)).length = (lst l).length + 1 + (lst r).length := by simp [lst]; omega
  rw [hlen] at hb
  have HUL := hide hul
  have Hl : Hid (InT eI w l) := hl
  have IH : Hid (∀ n, Calls Tryz.prog 106 #[.pointer ur, .int .i64 x] (w.drewN n) (PutP (w.drewN n) (lst r) x)) :=
    fun n => ih ur _ hur (inT_drewN hr) (by have := hup; rw [lst, List.pairwise_append, List.pairwise_cons] at this; exact this.2.1.2) (fun hm => hx (by rw [lst]; simp [hm])) (by omega)
  have HUP := hide hup
  have hnx : ¬ x < a := by omega
  clear hu ih hul hur hl hr c1 hup hx hlen
  go_enter Tryz.func106, Tryz.ntmps106
  go_wp2_with (go_at_call 127; refine (less_any _ _ _).mono ?_; rintro e w' ⟨rfl, rfl⟩)
  go_region_held3 (fun w' => w'.cell? ⟨b, 0, none⟩ = some (.int .i64 a) ∧ w'.cell? ⟨b, 2, none⟩ = some (.pointer ul) ∧ w'.cell? ⟨b, 3, none⟩ = some (.pointer ur)) (first | exact ⟨by assumption, by assumption, by assumption⟩ | go_keep)
    (first
      | (go_at_call 106; refine (IH.out 1).mono ?_; rintro e w1 ⟨p1, T1, rfl, hp1, hT1, hB1, hP1⟩; have k0 : w1.cell? ⟨b, 0, none⟩ = some (.int .i64 a) := (hB1.cell (p := ⟨b, 0, none⟩) hblt).trans c0; have k2 : w1.cell? ⟨b, 2, none⟩ = some (.pointer ul) := (hB1.cell (p := ⟨b, 2, none⟩) hblt).trans c2; have k3 : w1.cell? ⟨b, 3, none⟩ = some (.pointer ur) := (hB1.cell (p := ⟨b, 3, none⟩) hblt).trans c3; have hlt1 : b < w1.heap.size := World.block_lt_of_cell? _ _ k0; have hn1 := hP1.2.2; have HT1 := hide hT1; have HB1 := hide hB1; have HP1 := hide hP1; have Hp1 := hide hp1; clear hT1 hB1 hP1 hp1)
      | (go_at_call 128; refine (balance_at HUL.out Hp1.out a (by exact InT.below HB1.out (inT_drewN Hl.out)) (by exact HT1.out) (by omega)).mono ?_; rintro e w2 ⟨p2, T2, rfl, hp2, hT2, hB2, hL2⟩; have j0 : w2.cell? ⟨b, 0, none⟩ = some (.int .i64 a) := (hB2.cell (p := ⟨b, 0, none⟩) hlt1).trans k0; have j2 : w2.cell? ⟨b, 2, none⟩ = some (.pointer ul) := (hB2.cell (p := ⟨b, 2, none⟩) hlt1).trans k2; have j3 : w2.cell? ⟨b, 3, none⟩ = some (.pointer ur) := (hB2.cell (p := ⟨b, 3, none⟩) hlt1).trans k3; have HT2 := hide hT2; have HB2 := hide hB2; have HL2 := hide hL2; have Hp2 := hide hp2; clear hT2 hB2 hL2 hp2))
  go_wp2
  go_ret
  exact ⟨p2, T2, rfl, Hp2.out, HT2.out, (below_drew HB1.out).trans (HB2.out.mono (below_drew HB1.out).size), by rw [HL2.out, lst]; exact put_right (by have := HUP.out; rwa [lst] at this) sordInt hxa HP1.out⟩

theorem with_any (x : Int) (T : BT Int) : WithSaid x T := by
  induction T with
  | nil => exact with_nil x
  | node b o a l r ihl ihr =>
    intro u w hu h hup hx hb
    have ho : o = 0 := h.1
    subst ho
    rcases Int.lt_trichotomy x a with c | c | c
    · exact with_left x a b l r ihl u w hu h hup hx hb c
    · exact absurd (by rw [lst]; simp [c]) hx
    · exact with_right x a b l r ihr u w hu h hup hx hb c

/-- A set: its root's cell, and the tree. -/
def SetAt (w : World) (sb : Nat) (T : BT Int) : Prop := w.cell? ⟨sb, 0, none⟩ = some T.ptr ∧ w.frozen? ⟨sb, 0, none⟩ = false ∧ InT eI w T ∧ (lst T).Pairwise (fun a b : Int => a < b)

set_option maxHeartbeats 1000000 in
theorem has_any (sb : Nat) (T : BT Int) (x : Int) (w : World) (h : SetAt w sb T) :
    Calls Tryz.prog 105 #[.pointer (some ⟨sb, 0, none⟩), .int .i64 x] w fun e w' => e = .returned (.bool (decide (x ∈ lst T))) ∧ w' = w := by
  obtain ⟨hc, _, hT, hup⟩ := h
  obtain ⟨u, hu⟩ := ptr_pointer T
  rw [hu] at hc
  have HT : Hid (T.ptr = .pointer u ∧ InT eI w T ∧ (lst T).Pairwise (fun a b : Int => a < b)) := ⟨hu, hT, hup⟩
  clear hu hT hup
  go_enter Tryz.func105, Tryz.ntmps105
  go_wp2_with fail
  go_loopg [5] (lst T).length (fun k p wr => wr = w ∧ ∃ u', ∃ S : BT Int, p = .pointer u' ∧ (lst S).length = k ∧ S.ptr = .pointer u' ∧ InT eI w S ∧ (lst S).Pairwise (fun a b : Int => a < b) ∧ decide (x ∈ lst S) = decide (x ∈ lst T))
  case atStart => exact ⟨rfl, u, T, rfl, rfl, HT.out.1, HT.out.2.1, HT.out.2.2, rfl⟩
  case round =>
    obtain ⟨rfl, u', S, rfl, hk, hu', hS, hups, hin⟩ := hrel
    have HIN := hide hin
    have HK := hide hk
    clear hin hk HT
    cases S with
    | nil =>
      have e : u' = none := by
        have : Value.pointer none = .pointer u' := hu'
        injection this with h
        exact h.symm
      subst e
      clear hu' hS hups
      go_wp2
      go_ret
      exact ⟨by rw [← HIN.out]; simp [lst], rfl⟩
    | node b o a l r =>
      have ho : o = 0 := hS.1
      subst ho
      have e : u' = some ⟨b, 0, none⟩ := by
        have : Value.pointer (some ⟨b, 0, none⟩) = .pointer u' := hu'
        injection this with h
        exact h.symm
      subst e
      obtain ⟨_, c0, c1, c2, c3, hl, hr⟩ := hS
      obtain ⟨ul, hul⟩ := ptr_pointer l
      obtain ⟨ur, hur⟩ := ptr_pointer r
      rw [hul] at c2
      rw [hur] at c3
      rw [lst] at hups
      have HUPS := hide hups
      have HL : Hid (l.ptr = .pointer ul ∧ InT eI wr l) := ⟨hul, hl⟩
      have HR : Hid (r.ptr = .pointer ur ∧ InT eI wr r) := ⟨hur, hr⟩
      clear hu' c1 hul hur hl hr hups hc
      rcases Int.lt_trichotomy x a with c | c | c
      · go_wp2_with (go_at_call 101; refine (cmp_lt _ _ _ c).mono ?_; rintro e w' ⟨rfl, rfl⟩)
        go_roundg (lst l).length
        case measure => have := HK.out; simp [lst] at this; omega
        case rel => exact ⟨rfl, ul, l, rfl, rfl, HL.out.1, HL.out.2, (List.pairwise_append.1 HUPS.out).1, by rw [← HIN.out, lst]; exact decide_eq_decide.2 (mem_less HUPS.out sordInt c).symm⟩
      · subst c
        go_wp2_with (go_at_call 101; refine (cmp_eq _ _).mono ?_; rintro e w' ⟨rfl, rfl⟩)
        go_ret
        exact ⟨by rw [← HIN.out]; simp [lst], rfl⟩
      · go_wp2_with (go_at_call 101; refine (cmp_gt _ _ _ c).mono ?_; rintro e w' ⟨rfl, rfl⟩)
        go_roundg (lst r).length
        case measure => have := HK.out; simp [lst] at this; omega
        case rel => exact ⟨rfl, ur, r, rfl, rfl, HR.out.1, HR.out.2, (List.pairwise_cons.1 (List.pairwise_append.1 HUPS.out).2.1).2, by rw [← HIN.out, lst]; exact decide_eq_decide.2 (mem_more HUPS.out sordInt c).symm⟩
end Go.Proofs.YtkncboinfcnklabGreatDoor.WI

namespace Go.Proofs.YtkncboinfcnklabGreatDoor.WI
open Go.RowKit Go.Deep Mth

theorem inT_set {α : Type} [NTy α] {enc : α → Value} (henc : ∀ a p, enc a ≠ .pointer p) {w : World} {sb : Nat} {u : Option Addr} (hc : w.cell? ⟨sb, 0, none⟩ = some (.pointer u)) (v : Value) : ∀ {T : BT α}, InT enc w T → InT enc (w.setCell ⟨sb, 0, none⟩ v) T
  | .nil, _ => trivial
  | .node b o a l r, ⟨h0, h1, h2, h3, h4, hl, hr⟩ => by
    have hne : b ≠ sb := by
      rintro rfl
      rw [hc] at h1
      injection h1 with h1
      exact henc a u h1.symm
    have hk : ∀ j, (w.setCell ⟨sb, 0, none⟩ v).cell? ⟨b, j, none⟩ = w.cell? ⟨b, j, none⟩ := fun j => World.cell?_of_block (w := w) (a := ⟨b, j, none⟩) (Below.heap_setCell w ⟨sb, 0, none⟩ v b hne)
    exact ⟨h0, (hk _).trans h1, h2.same (Below.heap_setCell w ⟨sb, 0, none⟩ v b hne), (hk _).trans h3, (hk _).trans h4, inT_set henc hc v hl, inT_set henc hc v hr⟩

theorem eI_ne (a : Int) (p : Option Addr) : eI a ≠ .pointer p := by intro h; cases h

/-- What Add leaves. -/
def Added (w : World) (sb : Nat) (l : List Int) (x : Int) (e : Ending) (w' : World) : Prop :=
  e = .returned (.bool (!decide (x ∈ l))) ∧ ∃ T : BT Int, SetAt w' sb T ∧ w.grownBy w' (some sb) ∧ (x ∈ l → lst T = l) ∧ (¬ x ∈ l → Put (fun a b : Int => a < b) l x (lst T)) ∧ (∀ C t, w.heap[sb]? = some (Obj.cells C t (0, 0)) → ∃ C', w'.heap[sb]? = some (Obj.cells C' t (0, 0)))

set_option maxHeartbeats 400000 in
theorem add_old (sb : Nat) (T : BT Int) (x : Int) (w : World) (h : SetAt w sb T) (hx : x ∈ lst T) :
    Calls Tryz.prog 87 #[.pointer (some ⟨sb, 0, none⟩), .int .i64 x] w (Added w sb (lst T) x) := by
  have hs := has_any sb T x w h
  rw [show decide (x ∈ lst T) = true from by simp [hx]] at hs
  have HS := hide hs
  have H := hide h
  have HX := hide hx
  clear hs h hx
  go_enter Tryz.func87, Tryz.ntmps87
  go_wp2_with (go_at_call 105; refine HS.out.mono ?_; rintro e w' ⟨rfl, rfl⟩)
  go_ret
  exact ⟨by simp [HX.out], T, H.out, ⟨rfl, rfl, rfl, Nat.le_refl _, fun _ _ _ => rfl⟩, fun _ => rfl, fun hn => absurd HX.out hn, fun C t h => ⟨C, h⟩⟩

set_option maxHeartbeats 400000 in
theorem add_new (sb : Nat) (T : BT Int) (x : Int) (w : World) (h : SetAt w sb T) (hx : ¬ x ∈ lst T) (hb : (lst T).length + 1 ≤ 4611686018427) :
    Calls Tryz.prog 87 #[.pointer (some ⟨sb, 0, none⟩), .int .i64 x] w (Added w sb (lst T) x) := by
  have hs := has_any sb T x w h
  rw [show decide (x ∈ lst T) = false from by simp [hx]] at hs
  have HS := hide hs
  have HX := hide hx
  obtain ⟨hc, hf, hT, hup⟩ := h
  obtain ⟨u, hu⟩ := ptr_pointer T
  rw [hu] at hc
  have W := hide (with_any x T u w hu hT hup hx hb)
  have hsb : sb < w.heap.size := World.block_lt_of_cell? _ _ hc
  clear hs hx hT hup hu
  go_enter Tryz.func87, Tryz.ntmps87
  go_wp2_with (first
    | (go_at_call 105; refine HS.out.mono ?_; rintro e w' ⟨rfl, rfl⟩)
    | (go_at_call 106; refine W.out.mono ?_; rintro e w1 ⟨p, T1, rfl, hp, hT1, hB1, hP1⟩; have d0 : w1.cell? ⟨sb, 0, none⟩ = some (.pointer u) := (hB1.cell (p := ⟨sb, 0, none⟩) hsb).trans hc; have d1 : w1.frozen? ⟨sb, 0, none⟩ = false := (hB1.frozen (p := ⟨sb, 0, none⟩) hsb).trans hf; have HT1 := hide hT1; have HB1 := hide hB1; have HP1 := hide hP1; have Hp := hide hp; clear hT1 hB1 hP1 hp))
  go_ret
  refine ⟨by simp [HX.out], T1, ⟨?_, ?_, inT_set eI_ne d0 _ HT1.out, HP1.out.1⟩, ?_, fun h => absurd h HX.out, fun _ => HP1.out, fun C t h => ⟨_, by have q := (HB1.out.block sb hsb).trans h; simp [World.setCell, Array.getElem?_modify, q]; rfl⟩⟩
  · rw [Hp.out]; exact World.cell?_setCell_same' _ _ _ (by rw [d0]; rfl)
  · simp [d1]
  · refine ⟨HB1.out.os, HB1.out.tape, HB1.out.output, by simpa [World.setCell] using HB1.out.size, fun k hk hne => ?_⟩
    rw [Below.heap_setCell _ _ _ _ (by rintro rfl; exact hne rfl)]
    exact HB1.out.block k hk

theorem add_any (sb : Nat) (T : BT Int) (x : Int) (w : World) (h : SetAt w sb T) (hb : (lst T).length + 1 ≤ 4611686018427) :
    Calls Tryz.prog 87 #[.pointer (some ⟨sb, 0, none⟩), .int .i64 x] w (Added w sb (lst T) x) := by
  by_cases hx : x ∈ lst T
  · exact add_old sb T x w h hx
  · exact add_new sb T x w h hx hb

set_option maxHeartbeats 400000 in
theorem len_any (sb : Nat) (T : BT Int) (w : World) (h : SetAt w sb T) :
    Calls Tryz.prog 55 #[.pointer (some ⟨sb, 0, none⟩)] w fun e w' => e = .returned (.int .i64 (lst T).length) ∧ w' = w := by
  obtain ⟨hc, _, hT, _⟩ := h
  obtain ⟨u, hu⟩ := ptr_pointer T
  rw [hu] at hc
  have S := hide (size_at hu hT)
  clear hu hT
  go_enter Tryz.func55, Tryz.ntmps55
  go_wp2_with (go_at_call 78; refine S.out.mono ?_; rintro e w' ⟨rfl, rfl⟩)
  go_ret
  exact ⟨rfl, rfl⟩

theorem get_left {l r : List Int} {a : Int} {i : Nat} (h : i < l.length) : (l ++ a :: r).getD i 0 = l.getD i 0 := by
  simp [List.getD, List.getElem?_append_left h]
theorem get_mid {l r : List Int} {a : Int} {i : Nat} (h : i = l.length) : (l ++ a :: r).getD i 0 = a := by
  subst h; simp [List.getD]
theorem get_right {l r : List Int} {a : Int} {i : Nat} (h : l.length < i) : (l ++ a :: r).getD i 0 = r.getD (i - (l.length + 1)) 0 := by
  simp only [List.getD]
  rw [List.getElem?_append_right (by omega), show i - l.length = (i - (l.length + 1)) + 1 by omega, List.getElem?_cons_succ]

set_option maxHeartbeats 1000000 in
theorem at_in (sb : Nat) (T : BT Int) (i : Nat) (w : World) (h : SetAt w sb T) (hi : i < (lst T).length) (hb : (lst T).length ≤ 4611686018427) :
    Calls Tryz.prog 116 #[.pointer (some ⟨sb, 0, none⟩), .int .i64 i] w fun e w' => e = .returned (.tuple #[.int .i64 ((lst T).getD i 0), .bool true]) ∧ w' = w := by
  have L := hide (len_any sb T w h)
  obtain ⟨hc, _, hT, _⟩ := h
  obtain ⟨u, hu⟩ := ptr_pointer T
  rw [hu] at hc
  have HT : Hid (T.ptr = .pointer u ∧ InT eI w T) := ⟨hu, hT⟩
  clear hu hT
  have h0 : ¬ (i : Int) < 0 := by omega
  have h1 : ¬ ((lst T).length : Int) ≤ (i : Int) := by omega
  have h2 : decide ((lst T).length ≤ i) = false := by simp; omega
  go_enter Tryz.func116, Tryz.ntmps116
  go_wp2_with (go_at_call 55; refine L.out.mono ?_; rintro e w' ⟨rfl, hw⟩; rw [hw]; clear hw w')
  go_loopg [1, 7] (lst T).length (fun k q p wr => wr = w ∧ ∃ (j : Nat) (u' : Option Addr) (S : BT Int), q = .int .i64 j ∧ p = .pointer u' ∧ (lst S).length = k ∧ S.ptr = .pointer u' ∧ InT eI w S ∧ j < (lst S).length ∧ (lst S).length ≤ 4611686018427 ∧ (lst S).getD j 0 = (lst T).getD i 0)
  case atStart => exact ⟨rfl, i, u, T, rfl, rfl, rfl, HT.out.1, HT.out.2, hi, hb, rfl⟩
  case round =>
    obtain ⟨rfl, j, u', S, rfl, rfl, hk, hu', hS, hj, hbs, hin⟩ := hrel
    have HIN := hide hin
    have HK := hide hk
    clear hin hk HT h0 h1 h2 hi hb L
    cases S with
    | nil => simp [lst] at hj
    | node b o a l r =>
      have ho : o = 0 := hS.1
      subst ho
      have e : u' = some ⟨b, 0, none⟩ := by
        have : Value.pointer (some ⟨b, 0, none⟩) = .pointer u' := hu'
        injection this with h
        exact h.symm
      subst e
      obtain ⟨_, c0, c1, c2, c3, hl, hr⟩ := hS
      obtain ⟨ul, hul⟩ := ptr_pointer l
      obtain ⟨ur, hur⟩ := ptr_pointer r
      rw [hul] at c2
      rw [hur] at c3
      have SL := hide (size_at hul hl)
      have HL : Hid (l.ptr = .pointer ul ∧ InT eI wr l) := ⟨hul, hl⟩
      have HR : Hid (r.ptr = .pointer ur ∧ InT eI wr r) := ⟨hur, hr⟩
      have hlen : (lst (.node b 0 a l r)).length = (lst l).length + 1 + (lst r).length := by simp [lst]; omega
      rw [hlen] at hj hbs
      have HLEN := hide hlen
      clear hu' c1 hul hur hl hr hc hlen
      rcases Nat.lt_trichotomy j (lst l).length with c | c | c
      · have q1 : ((j : Int) != ((lst l).length : Int)) = true := by rw [bne_iff_ne]; omega
        have q2 : (j : Int) < ((lst l).length : Int) := by omega
        go_wp2_with (go_at_call 78; refine SL.out.mono ?_; rintro e w' ⟨rfl, rfl⟩)
        go_roundg (lst l).length
        case measure => have := HK.out; have := HLEN.out; omega
        case rel => exact ⟨rfl, j, ul, l, rfl, rfl, rfl, HL.out.1, HL.out.2, c, by omega, by rw [← HIN.out, lst, get_left c]⟩
      · have q1 : ((j : Int) != ((lst l).length : Int)) = false := by rw [bne_eq_false_iff_eq]; omega
        have C := hide c
        clear c
        go_wp2_with (go_at_call 78; refine SL.out.mono ?_; rintro e w' ⟨rfl, rfl⟩)
        go_ret2
        have e : (lst T).getD i 0 = a := by rw [← HIN.out, lst, get_mid C.out]
        exact ⟨by rw [e]; rfl, rfl⟩
      · have q1 : ((j : Int) != ((lst l).length : Int)) = true := by rw [bne_iff_ne]; omega
        have q2 : ¬ (j : Int) < ((lst l).length : Int) := by omega
        go_wp2_with (go_at_call 78; refine SL.out.mono ?_; rintro e w' ⟨rfl, rfl⟩)
        go_roundg (lst r).length
        case measure => have := HK.out; have := HLEN.out; omega
        case rel => exact ⟨rfl, j - ((lst l).length + 1), ur, r, by go_num, rfl, rfl, HR.out.1, HR.out.2, by omega, by omega, by rw [← HIN.out, lst, get_right c]⟩
end Go.Proofs.YtkncboinfcnklabGreatDoor.WI
