import Derived.Test.YtkncboinfcnklaaS4
namespace Go.Proofs.Ytkncboinfcnklaa.Str
open Go.RowKit Go.Deep Go.Proofs.Ytkncboinfcnklaa.Mth

set_option maxHeartbeats 400000 in
theorem cmp_lt (x y : ByteArray) (w : World) (h : ltS x y) : Calls Try.prog 32 #[.string x, .string y] w fun e w' => e = .returned (.int .i64 (-1)) ∧ w' = w := by
  have h1 : Op.bytesLess x.toList y.toList = true := by rw [less_eq]; simpa using h
  clear h
  go_enter Try.func32, Try.ntmps32
  go_wp2
  go_ret
  exact ⟨rfl, rfl⟩

set_option maxHeartbeats 400000 in
theorem cmp_gt (x y : ByteArray) (w : World) (h : ltS y x) : Calls Try.prog 32 #[.string x, .string y] w fun e w' => e = .returned (.int .i64 1) ∧ w' = w := by
  have h1 : Op.bytesLess x.toList y.toList = false := by rw [less_eq]; simp only [decide_eq_false_iff_not]; exact fun h2 => sordS.irr _ (sordS.tr _ _ _ h h2)
  have h2 : (x.toList == y.toList) = false := by rw [eq_eq]; simp only [decide_eq_false_iff_not]; rintro rfl; exact sordS.irr _ h
  clear h
  go_enter Try.func32, Try.ntmps32
  go_wp2
  go_ret
  exact ⟨rfl, rfl⟩

set_option maxHeartbeats 400000 in
theorem cmp_eq (x : ByteArray) (w : World) : Calls Try.prog 32 #[.string x, .string x] w fun e w' => e = .returned (.int .i64 0) ∧ w' = w := by
  have h1 : Op.bytesLess x.toList x.toList = false := by rw [less_eq]; simp only [decide_eq_false_iff_not]; exact sordS.irr _
  go_enter Try.func32, Try.ntmps32
  go_wp2
  go_ret
  exact ⟨rfl, rfl⟩

/-- What a call that makes a tree of a list leaves, its pointer written out. -/
def TreeP (w : World) (l : List ByteArray) (e : Ending) (w' : World) : Prop := ∃ p, ∃ T : BT ByteArray, e = .returned (.pointer p) ∧ T.ptr = .pointer p ∧ InT eS w' T ∧ Below w.heap.size w w' ∧ lst T = l

theorem balance_at {L R : BT ByteArray} {u v : Option Addr} (hu : L.ptr = .pointer u) (hv : R.ptr = .pointer v) (x : ByteArray) {w : World} (hL : InT eS w L) (hR : InT eS w R) (hb : (lst L).length + 1 + (lst R).length ≤ 4611686018427) :
    Calls Try.prog 48 #[.pointer u, .string x, .pointer v] w (TreeP w (lst L ++ x :: lst R)) := by
  have := balance_any L R x w hL hR hb
  rw [hu, hv] at this
  refine this.mono ?_
  rintro e w' ⟨T, rfl, h1, h2, h3⟩
  obtain ⟨p, hp⟩ := ptr_pointer T
  exact ⟨p, T, by rw [hp], hp, h1, h2, h3⟩

/-- What 'with' leaves. -/
def PutP (w : World) (l : List ByteArray) (x : ByteArray) (e : Ending) (w' : World) : Prop := ∃ p, ∃ T : BT ByteArray, e = .returned (.pointer p) ∧ T.ptr = .pointer p ∧ InT eS w' T ∧ Below w.heap.size w w' ∧ Put ltS l x (lst T)

def WithSaid (x : ByteArray) (T : BT ByteArray) : Prop := ∀ (u : Option Addr) (w : World), T.ptr = .pointer u → InT eS w T → (lst T).Pairwise ltS → ¬ x ∈ lst T → (lst T).length + 1 ≤ 4611686018427 →
  Calls Try.prog 33 #[.pointer u, .string x] w (PutP w (lst T) x)

set_option maxHeartbeats 400000 in
theorem with_nil (x : ByteArray) : WithSaid x .nil := by
  intro u w hu _ _ _ _
  have hu' : u = none := by
    have : Value.pointer none = .pointer u := hu
    injection this with h
    exact h.symm
  subst hu'
  clear hu
  go_enter Try.func33, Try.ntmps33
  go_wp2_with fail
  refine (join_at (L := .nil) (R := .nil) rfl rfl x trivial trivial (by simp [lst])).mono ?_
  rintro e w1 ⟨rfl, hT1, hB1⟩
  have HT1 := hide hT1
  have HB1 := hide hB1
  clear hT1 hB1
  go_wp2
  go_ret
  exact ⟨_, .node _ 0 x .nil .nil, rfl, rfl, HT1.out, HB1.out, put_nil x⟩

set_option maxHeartbeats 1000000 in
theorem with_left (x a : ByteArray) (b : Nat) (l r : BT ByteArray) (ih : WithSaid x l) (u : Option Addr) (w : World) (hu : (BT.node b 0 a l r).ptr = .pointer u) (h : InT eS w (.node b 0 a l r)) (hup : (lst (.node b 0 a l r)).Pairwise ltS) (hx : ¬ x ∈ lst (.node b 0 a l r)) (hb : (lst (.node b 0 a l r)).length + 1 ≤ 4611686018427) (hxa : ltS x a) :
    Calls Try.prog 33 #[.pointer u, .string x] w (PutP w (lst (.node b 0 a l r)) x) := by
  have hu' : u = some ⟨b, 0, none⟩ := by
    have : Value.pointer (some ⟨b, 0, none⟩) = .pointer u := hu
    injection this with h
    exact h.symm
  subst hu'
  have hblt := inT_lt h
  obtain ⟨_, c0, c1, c2, c3, hl, hr⟩ := h
  obtain ⟨ul, hul⟩ := ptr_pointer l
  obtain ⟨ur, hur⟩ := ptr_pointer r
  rw [hul] at c2
  rw [hur] at c3
  have hlen : (lst (.node b 0 a l r)).length = (lst l).length + 1 + (lst r).length := by simp [lst]; omega
  rw [hlen] at hb
  have HUR := hide hur
  have Hr : Hid (InT eS w r) := hr
  have IH : Hid (∀ n, Calls Try.prog 33 #[.pointer ul, .string x] (w.drewN n) (PutP (w.drewN n) (lst l) x)) :=
    fun n => ih ul _ hul (inT_drewN hl) (by have := hup; rw [lst, List.pairwise_append] at this; exact this.1) (fun hm => hx (by rw [lst]; simp [hm])) (by omega)
  have HUP := hide hup
  clear hu ih hul hur hl hr c1 hup hx hlen
  go_enter Try.func33, Try.ntmps33
  go_wp2_with (go_at_call 47; refine (less_t _ _ _ hxa).mono ?_; rintro e w' ⟨rfl, rfl⟩)
  go_region_held3 (fun w' => w'.cell? ⟨b, 0, none⟩ = some (.string a) ∧ w'.cell? ⟨b, 2, none⟩ = some (.pointer ul) ∧ w'.cell? ⟨b, 3, none⟩ = some (.pointer ur)) (first | exact ⟨by assumption, by assumption, by assumption⟩ | go_keep)
    (first
      | (go_at_call 33; refine (IH.out 1).mono ?_; rintro e w1 ⟨p1, T1, rfl, hp1, hT1, hB1, hP1⟩; have k0 : w1.cell? ⟨b, 0, none⟩ = some (.string a) := (hB1.cell (p := ⟨b, 0, none⟩) hblt).trans c0; have k2 : w1.cell? ⟨b, 2, none⟩ = some (.pointer ul) := (hB1.cell (p := ⟨b, 2, none⟩) hblt).trans c2; have k3 : w1.cell? ⟨b, 3, none⟩ = some (.pointer ur) := (hB1.cell (p := ⟨b, 3, none⟩) hblt).trans c3; have hlt1 : b < w1.heap.size := World.block_lt_of_cell? _ _ k0; have hn1 := hP1.2.2; have HT1 := hide hT1; have HB1 := hide hB1; have HP1 := hide hP1; have Hp1 := hide hp1; clear hT1 hB1 hP1 hp1)
      | (go_at_call 48; refine (balance_at Hp1.out HUR.out a (by exact HT1.out) (by exact InT.below HB1.out (inT_drewN Hr.out)) (by omega)).mono ?_; rintro e w2 ⟨p2, T2, rfl, hp2, hT2, hB2, hL2⟩; have j0 : w2.cell? ⟨b, 0, none⟩ = some (.string a) := (hB2.cell (p := ⟨b, 0, none⟩) hlt1).trans k0; have j2 : w2.cell? ⟨b, 2, none⟩ = some (.pointer ul) := (hB2.cell (p := ⟨b, 2, none⟩) hlt1).trans k2; have j3 : w2.cell? ⟨b, 3, none⟩ = some (.pointer ur) := (hB2.cell (p := ⟨b, 3, none⟩) hlt1).trans k3; have HT2 := hide hT2; have HB2 := hide hB2; have HL2 := hide hL2; have Hp2 := hide hp2; clear hT2 hB2 hL2 hp2))
  go_wp2
  go_ret
  exact ⟨p2, T2, rfl, Hp2.out, HT2.out, (below_drew HB1.out).trans (HB2.out.mono (below_drew HB1.out).size), by rw [HL2.out, lst]; exact put_left (by have := HUP.out; rwa [lst] at this) sordS hxa HP1.out⟩
end Go.Proofs.Ytkncboinfcnklaa.Str
