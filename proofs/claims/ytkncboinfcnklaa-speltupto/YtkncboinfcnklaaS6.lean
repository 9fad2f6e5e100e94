import Derived.Test.YtkncboinfcnklaaS5
namespace Go.Proofs.Ytkncboinfcnklaa.Str
open Go.RowKit Go.Deep Go.Proofs.Ytkncboinfcnklaa.Mth

set_option maxHeartbeats 1000000 in
theorem with_right (x a : ByteArray) (b : Nat) (l r : BT ByteArray) (ih : WithSaid x r) (u : Option Addr) (w : World) (hu : (BT.node b 0 a l r).ptr = .pointer u) (h : InT eS w (.node b 0 a l r)) (hup : (lst (.node b 0 a l r)).Pairwise ltS) (hx : ¬ x ∈ lst (.node b 0 a l r)) (hb : (lst (.node b 0 a l r)).length + 1 ≤ 4611686018427) (hxa : ltS a x) :
    Calls Try.prog 33 #[.pointer u, .string x] w (PutP w (lst (.node b 0 a l r)) x) := by
  have hu' : u = some ⟨b, 0, none⟩ := by
    have : Value.pointer (some ⟨b, 0, none⟩) = .pointer u := hu
    injection this with h
    exact h.symm
  subst hu'
  have hblt := inT_lt h
  obtain ⟨_, c0, c1, c2, c3, hl, hr⟩ := h
  obtain ⟨ul, hul⟩ := ptr_pointer l
  obtain ⟨ur, hur⟩ := ptr_pointer r
  rw [hul] at c2
  rw [hur] at c3
  have hlen : (lst (.node b 0 a l r)).length = (lst l).length + 1 + (lst r).length := by simp [lst]; omega
  rw [hlen] at hb
  have HUL := hide hul
  have Hl : Hid (InT eS w l) := hl
  have IH : Hid (∀ n, Calls Try.prog 33 #[.pointer ur, .string x] (w.drewN n) (PutP (w.drewN n) (lst r) x)) :=
    fun n => ih ur _ hur (inT_drewN hr) (by have := hup; rw [lst, List.pairwise_append, List.pairwise_cons] at this; exact this.2.1.2) (fun hm => hx (by rw [lst]; simp [hm])) (by omega)
  have HUP := hide hup
  have HNX : Hid (¬ ltS x a) := fun h => sordS.irr _ (sordS.tr _ _ _ h hxa)
  clear hu ih hul hur hl hr c1 hup hx hlen
  go_enter Try.func33, Try.ntmps33
  go_wp2_with (go_at_call 47; refine (less_f _ _ _ HNX.out).mono ?_; rintro e w' ⟨rfl, rfl⟩)
  go_region_held3 (fun w' => w'.cell? ⟨b, 0, none⟩ = some (.string a) ∧ w'.cell? ⟨b, 2, none⟩ = some (.pointer ul) ∧ w'.cell? ⟨b, 3, none⟩ = some (.pointer ur)) (first | exact ⟨by assumption, by assumption, by assumption⟩ | go_keep)
    (first
      | (go_at_call 33; refine (IH.out 1).mono ?_; rintro e w1 ⟨p1, T1, rfl, hp1, hT1, hB1, hP1⟩; have k0 : w1.cell? ⟨b, 0, none⟩ = some (.string a) := (hB1.cell (p := ⟨b, 0, none⟩) hblt).trans c0; have k2 : w1.cell? ⟨b, 2, none⟩ = some (.pointer ul) := (hB1.cell (p := ⟨b, 2, none⟩) hblt).trans c2; have k3 : w1.cell? ⟨b, 3, none⟩ = some (.pointer ur) := (hB1.cell (p := ⟨b, 3, none⟩) hblt).trans c3; have hlt1 : b < w1.heap.size := World.block_lt_of_cell? _ _ k0; have hn1 := hP1.2.2; have HT1 := hide hT1; have HB1 := hide hB1; have HP1 := hide hP1; have Hp1 := hide hp1; clear hT1 hB1 hP1 hp1)
      | (go_at_call 48; refine (balance_at HUL.out Hp1.out a (by exact InT.below HB1.out (inT_drewN Hl.out)) (by exact HT1.out) (by omega)).mono ?_; rintro e w2 ⟨p2, T2, rfl, hp2, hT2, hB2, hL2⟩; have j0 : w2.cell? ⟨b, 0, none⟩ = some (.string a) := (hB2.cell (p := ⟨b, 0, none⟩) hlt1).trans k0; have j2 : w2.cell? ⟨b, 2, none⟩ = some (.pointer ul) := (hB2.cell (p := ⟨b, 2, none⟩) hlt1).trans k2; have j3 : w2.cell? ⟨b, 3, none⟩ = some (.pointer ur) := (hB2.cell (p := ⟨b, 3, none⟩) hlt1).trans k3; have HT2 := hide hT2; have HB2 := hide hB2; have HL2 := hide hL2; have Hp2 := hide hp2; clear hT2 hB2 hL2 hp2))
  go_wp2
  go_ret
  exact ⟨p2, T2, rfl, Hp2.out, HT2.out, (below_drew HB1.out).trans (HB2.out.mono (below_drew HB1.out).size), by rw [HL2.out, lst]; exact put_right (by have := HUP.out; rwa [lst] at this) sordS hxa HP1.out⟩

theorem with_any (x : ByteArray) (T : BT ByteArray) : WithSaid x T := by
  induction T with
  | nil => exact with_nil x
  | node b o a l r ihl ihr =>
    intro u w hu h hup hx hb
    have ho : o = 0 := h.1
    subst ho
    rcases sordS.tri x a with c | c | c
    · exact with_left x a b l r ihl u w hu h hup hx hb c
    · exact absurd (by rw [lst]; simp [c]) hx
    · exact with_right x a b l r ihr u w hu h hup hx hb c

/-- A set: its root's cell, and the tree. -/
def SetAt (w : World) (sb : Nat) (T : BT ByteArray) : Prop := w.cell? ⟨sb, 0, none⟩ = some T.ptr ∧ w.frozen? ⟨sb, 0, none⟩ = false ∧ InT eS w T ∧ (lst T).Pairwise ltS

set_option maxHeartbeats 1000000 in
theorem has_any (sb : Nat) (T : BT ByteArray) (x : ByteArray) (w : World) (h : SetAt w sb T) :
    Calls Try.prog 18 #[.pointer (some ⟨sb, 0, none⟩), .string x] w fun e w' => e = .returned (.bool (memD x (lst T))) ∧ w' = w := by
  obtain ⟨hc, _, hT, hup⟩ := h
  obtain ⟨u, hu⟩ := ptr_pointer T
  rw [hu] at hc
  have HT : Hid (T.ptr = .pointer u ∧ InT eS w T ∧ (lst T).Pairwise ltS) := ⟨hu, hT, hup⟩
  clear hu hT hup
  go_enter Try.func18, Try.ntmps18
  go_wp2_with fail
  go_loopg [5] (lst T).length (fun k p wr => wr = w ∧ ∃ u', ∃ S : BT ByteArray, p = .pointer u' ∧ (lst S).length = k ∧ S.ptr = .pointer u' ∧ InT eS w S ∧ (lst S).Pairwise ltS ∧ memD x (lst S) = memD x (lst T))
  case atStart => exact ⟨rfl, u, T, rfl, rfl, HT.out.1, HT.out.2.1, HT.out.2.2, rfl⟩
  case round =>
    obtain ⟨rfl, u', S, rfl, hk, hu', hS, hups, hin⟩ := hrel
    have HIN := hide hin
    have HK := hide hk
    clear hin hk HT
    cases S with
    | nil =>
      have e : u' = none := by
        have : Value.pointer none = .pointer u' := hu'
        injection this with h
        exact h.symm
      subst e
      clear hu' hS hups
      go_wp2
      go_ret
      exact ⟨by rw [← HIN.out]; simp [lst], rfl⟩
    | node b o a l r =>
      have ho : o = 0 := hS.1
      subst ho
      have e : u' = some ⟨b, 0, none⟩ := by
        have : Value.pointer (some ⟨b, 0, none⟩) = .pointer u' := hu'
        injection this with h
        exact h.symm
      subst e
      obtain ⟨_, c0, c1, c2, c3, hl, hr⟩ := hS
      obtain ⟨ul, hul⟩ := ptr_pointer l
      obtain ⟨ur, hur⟩ := ptr_pointer r
      rw [hul] at c2
      rw [hur] at c3
      rw [lst] at hups
      have HUPS := hide hups
      have HL : Hid (l.ptr = .pointer ul ∧ InT eS wr l) := ⟨hul, hl⟩
      have HR : Hid (r.ptr = .pointer ur ∧ InT eS wr r) := ⟨hur, hr⟩
      clear hu' c1 hul hur hl hr hups hc
      rcases sordS.tri x a with c | c | c
      · go_wp2_with (go_at_call 32; refine (cmp_lt _ _ _ c).mono ?_; rintro e w' ⟨rfl, rfl⟩)
        go_roundg (lst l).length
        case measure => have := HK.out; simp [lst] at this; omega
        case rel => exact ⟨rfl, ul, l, rfl, rfl, HL.out.1, HL.out.2, (List.pairwise_append.1 HUPS.out).1, by rw [← HIN.out, lst]; exact decide_eq_decide.2 (mem_less HUPS.out sordS c).symm⟩
      · subst c
        go_wp2_with (go_at_call 32; refine (cmp_eq _ _).mono ?_; rintro e w' ⟨rfl, rfl⟩)
        go_ret
        exact ⟨by rw [← HIN.out]; simp [lst], rfl⟩
      · go_wp2_with (go_at_call 32; refine (cmp_gt _ _ _ c).mono ?_; rintro e w' ⟨rfl, rfl⟩)
        go_roundg (lst r).length
        case measure => have := HK.out; simp [lst] at this; omega
        case rel => exact ⟨rfl, ur, r, rfl, rfl, HR.out.1, HR.out.2, (List.pairwise_cons.1 (List.pairwise_append.1 HUPS.out).2.1).2, by rw [← HIN.out, lst]; exact decide_eq_decide.2 (mem_more HUPS.out sordS c).symm⟩
end Go.Proofs.Ytkncboinfcnklaa.Str
