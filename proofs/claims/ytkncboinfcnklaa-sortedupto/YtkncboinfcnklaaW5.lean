import Derived.Test.YtkncboinfcnklaaW4
namespace Go.Proofs.Ytkncboinfcnklaa
open Go.RowKit Go.Deep Mth

set_option maxHeartbeats 400000 in
theorem cmp_lt (x y : Int) (w : World) (h : x < y) : Calls Try.prog 25 #[.int .i64 x, .int .i64 y] w fun e w' => e = .returned (.int .i64 (-1)) ∧ w' = w := by
  go_enter Try.func25, Try.ntmps25
  go_wp2
  go_ret
  exact ⟨rfl, rfl⟩

set_option maxHeartbeats 400000 in
theorem cmp_gt (x y : Int) (w : World) (h : y < x) : Calls Try.prog 25 #[.int .i64 x, .int .i64 y] w fun e w' => e = .returned (.int .i64 1) ∧ w' = w := by
  have h' : ¬ x < y := by omega
  go_enter Try.func25, Try.ntmps25
  go_wp2
  go_ret
  exact ⟨rfl, rfl⟩

set_option maxHeartbeats 400000 in
theorem cmp_eq (x : Int) (w : World) : Calls Try.prog 25 #[.int .i64 x, .int .i64 x] w fun e w' => e = .returned (.int .i64 0) ∧ w' = w := by
  have h' : ¬ x < x := by omega
  go_enter Try.func25, Try.ntmps25
  go_wp2
  go_ret
  exact ⟨rfl, rfl⟩

/-- What a call that makes a tree of a list leaves, its pointer written out. -/
def TreeP (w : World) (l : List Int) (e : Ending) (w' : World) : Prop := ∃ p, ∃ T : BT Int, e = .returned (.pointer p) ∧ T.ptr = .pointer p ∧ InT eI w' T ∧ Below w.heap.size w w' ∧ lst T = l

theorem balance_at {L R : BT Int} {u v : Option Addr} (hu : L.ptr = .pointer u) (hv : R.ptr = .pointer v) (x : Int) {w : World} (hL : InT eI w L) (hR : InT eI w R) (hb : (lst L).length + 1 + (lst R).length ≤ 4611686018427) :
    Calls Try.prog 42 #[.pointer u, .int .i64 x, .pointer v] w (TreeP w (lst L ++ x :: lst R)) := by
  have := balance_any L R x w hL hR hb
  rw [hu, hv] at this
  refine this.mono ?_
  rintro e w' ⟨T, rfl, h1, h2, h3⟩
  obtain ⟨p, hp⟩ := ptr_pointer T
  exact ⟨p, T, by rw [hp], hp, h1, h2, h3⟩

/-- What 'with' leaves. -/
def PutP (w : World) (l : List Int) (x : Int) (e : Ending) (w' : World) : Prop := ∃ p, ∃ T : BT Int, e = .returned (.pointer p) ∧ T.ptr = .pointer p ∧ InT eI w' T ∧ Below w.heap.size w w' ∧ Put (fun a b : Int => a < b) l x (lst T)

def WithSaid (x : Int) (T : BT Int) : Prop := ∀ (u : Option Addr) (w : World), T.ptr = .pointer u → InT eI w T → (lst T).Pairwise (fun a b : Int => a < b) → ¬ x ∈ lst T → (lst T).length + 1 ≤ 4611686018427 →
  Calls Try.prog 26 #[.pointer u, .int .i64 x] w (PutP w (lst T) x)

set_option maxHeartbeats 400000 in
theorem with_nil (x : Int) : WithSaid x .nil := by
  intro u w hu _ _ _ _
  have hu' : u = none := by
    have : Value.pointer none = .pointer u := hu
    injection this with h
    exact h.symm
  subst hu'
  clear hu
  go_enter Try.func26, Try.ntmps26
  go_wp2_with fail
  refine (join_at (L := .nil) (R := .nil) rfl rfl x trivial trivial (by simp [lst])).mono ?_
  rintro e w1 ⟨rfl, hT1, hB1⟩
  have HT1 := hide hT1
  have HB1 := hide hB1
  clear hT1 hB1
  go_wp2
  go_ret
  exact ⟨_, .node _ 0 x .nil .nil, rfl, rfl, HT1.out, HB1.out, put_nil x⟩

set_option maxHeartbeats 1000000 in
theorem with_left (x a : Int) (b : Nat) (l r : BT Int) (ih : WithSaid x l) (u : Option Addr) (w : World) (hu : (BT.node b 0 a l r).ptr = .pointer u) (h : InT eI w (.node b 0 a l r)) (hup : (lst (.node b 0 a l r)).Pairwise (fun a b : Int => a < b)) (hx : ¬ x ∈ lst (.node b 0 a l r)) (hb : (lst (.node b 0 a l r)).length + 1 ≤ 4611686018427) (hxa : x < a) :
    Calls Try.prog 26 #[.pointer u, .int .i64 x] w (PutP w (lst (.node b 0 a l r)) x) := by
  have hu' : u = some ⟨b, 0, none⟩ := by
    have : Value.pointer (some ⟨b, 0, none⟩) = .pointer u := hu
    injection this with h
    exact h.symm
  subst hu'
  have hblt := inT_lt h
  obtain ⟨_, c0, c1, c2, c3, hl, hr⟩ := h
  obtain ⟨ul, hul⟩ := ptr_pointer l
  obtain ⟨ur, hur⟩ := ptr_pointer r
  rw [hul] at c2
  rw [hur] at c3
  have hlen : (lst (.node b 0 a l r)).length = (lst l).length + 1 + (lst r).length := by simp [lst]; omega
  rw [hlen] at hb
  have HUR := hide hur
  have Hr : Hid (InT eI w r) := hr
  have IH : Hid (∀ n, Calls Try.prog 26 #[.pointer ul, .int .i64 x] (w.drewN n) (PutP (w.drewN n) (lst l) x)) :=
    fun n => ih ul _ hul (inT_drewN hl) (by have := hup; rw [lst, List.pairwise_append] at this; exact this.1) (fun hm => hx (by rw [lst]; simp [hm])) (by omega)
  have HUP := hide hup
  clear hu ih hul hur hl hr c1 hup hx hlen
  go_enter Try.func26, Try.ntmps26
  go_wp2_with (go_at_call 41; refine (less_any _ _ _).mono ?_; rintro e w' ⟨rfl, rfl⟩)
  go_region_held3 (fun w' => w'.cell? ⟨b, 0, none⟩ = some (.int .i64 a) ∧ w'.cell? ⟨b, 2, none⟩ = some (.pointer ul) ∧ w'.cell? ⟨b, 3, none⟩ = some (.pointer ur)) (first | exact ⟨by assumption, by assumption, by assumption⟩ | go_keep)
    (first
      | (go_at_call 26; refine (IH.out 1).mono ?_; rintro e w1 ⟨p1, T1, rfl, hp1, hT1, hB1, hP1⟩; have k0 : w1.cell? ⟨b, 0, none⟩ = some (.int .i64 a) := (hB1.cell (p := ⟨b, 0, none⟩) hblt).trans c0; have k2 : w1.cell? ⟨b, 2, none⟩ = some (.pointer ul) := (hB1.cell (p := ⟨b, 2, none⟩) hblt).trans c2; have k3 : w1.cell? ⟨b, 3, none⟩ = some (.pointer ur) := (hB1.cell (p := ⟨b, 3, none⟩) hblt).trans c3; have hlt1 : b < w1.heap.size := World.block_lt_of_cell? _ _ k0; have hn1 := hP1.2.2; have HT1 := hide hT1; have HB1 := hide hB1; have HP1 := hide hP1; have Hp1 := hide hp1; clear hT1 hB1 hP1 hp1)
      | (go_at_call 42; refine (balance_at Hp1.out HUR.out a (by exact HT1.out) (by exact InT.below HB1.out (inT_drewN Hr.out)) (by omega)).mono ?_; rintro e w2 ⟨p2, T2, rfl, hp2, hT2, hB2, hL2⟩; have j0 : w2.cell? ⟨b, 0, none⟩ = some (.int .i64 a) := (hB2.cell (p := ⟨b, 0, none⟩) hlt1).trans k0; have j2 : w2.cell? ⟨b, 2, none⟩ = some (.pointer ul) := (hB2.cell (p := ⟨b, 2, none⟩) hlt1).trans k2; have j3 : w2.cell? ⟨b, 3, none⟩ = some (.pointer ur) := (hB2.cell (p := ⟨b, 3, none⟩) hlt1).trans k3; have HT2 := hide hT2; have HB2 := hide hB2; have HL2 := hide hL2; have Hp2 := hide hp2; clear hT2 hB2 hL2 hp2))
  go_wp2
  go_ret
  exact ⟨p2, T2, rfl, Hp2.out, HT2.out, (below_drew HB1.out).trans (HB2.out.mono (below_drew HB1.out).size), by rw [HL2.out, lst]; exact put_left (by have := HUP.out; rwa [lst] at this) sordInt hxa HP1.out⟩
end Go.Proofs.Ytkncboinfcnklaa
