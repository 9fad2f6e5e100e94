import Derived.Test.YtkncboinfcnklaaGreatDoorL10
namespace Go.Proofs.YtkncboinfcnklaaGreatDoor
open Go.RowKit Go.Deep Go.Proofs.YtkncboinfcnklaaGreatDoor.Mth

/-- All lists of one kind that came out. -/
def Book (w : World) (B : Nat) (T e : TypeId) (sz : Nat) (F : Nat → Nat → Value) (v : Value) (N : Nat) : Prop :=
  ∃ q : Nat → Qd, w.ownsRow B T 5 v N ((List.range N).flatMap (qc q)) ∧ ∀ i, i < N → (∃ n, n ≤ 4194304 ∧ RdM w e sz (q i).l n (F i)) ∧ (∃ n, n ≤ 4194304 ∧ RdM w e sz (q i).a n (F i)) ∧ (∃ n, n ≤ 4194304 ∧ RdM w e sz (q i).b n (F i)) ∧ (∃ n, n ≤ 4194304 ∧ RdM w e sz (q i).c n (F i))

theorem Book.keep {w w' : World} {B : Nat} {T e : TypeId} {sz : Nat} {F : Nat → Nat → Value} {v : Value} {N : Nat} (h : Book w B T e sz F v N) (hT : ∀ (g : Nat) C, w.heap[g]? = some (Obj.cells C T (0, 0)) → w'.heap[g]? = w.heap[g]?) (he : ∀ (g : Nat) C, w.heap[g]? = some (Obj.cells C e (0, 0)) → w'.heap[g]? = w.heap[g]?) : Book w' B T e sz F v N := by
  obtain ⟨q, hrow, hall⟩ := h
  refine ⟨q, own_same hrow (fun g hg => ?_), fun i hi => ?_⟩
  · obtain ⟨_, _, C, hC⟩ := own_block hrow hg
    exact hT g C hC
  · obtain ⟨⟨n0, l0, r0⟩, ⟨n1, l1, r1⟩, ⟨n2, l2, r2⟩, ⟨n3, l3, r3⟩⟩ := hall i hi
    exact ⟨⟨n0, l0, r0.keep he⟩, ⟨n1, l1, r1.keep he⟩, ⟨n2, l2, r2.keep he⟩, ⟨n3, l3, r3.keep he⟩⟩
theorem Book.below {w w' : World} {B : Nat} {T e : TypeId} {sz : Nat} {F : Nat → Nat → Value} {v : Value} {N : Nat} (h : Book w B T e sz F v N) (hb : Below w.heap.size w w') : Book w' B T e sz F v N :=
  h.keep (fun g _ hg => hb.block g (Array.getElem?_eq_some_iff.1 hg).1) (fun g _ hg => hb.block g (Array.getElem?_eq_some_iff.1 hg).1)

theorem qc_at {q : Nat → Qd} {N i : Nat} (h : i < N) : ((List.range N).flatMap (qc q))[i * 5]? = some (q i).l ∧ ((List.range N).flatMap (qc q))[i * 5 + 1]? = some (q i).a ∧ ((List.range N).flatMap (qc q))[i * 5 + 2]? = some (q i).b ∧ ((List.range N).flatMap (qc q))[i * 5 + 3]? = some (q i).c ∧ ((List.range N).flatMap (qc q))[i * 5 + 4]? = some (.int .i64 (i : Int)) := by
  have len : ∀ k, ((List.range k).flatMap (qc q)).length = k * 5 := by
    intro k
    induction k with
    | zero => rfl
    | succ k ih => rw [List.range_succ, List.flatMap_append, List.length_append, ih]; simp [qc]; omega
  have key : ∀ t, t < 5 → ((List.range N).flatMap (qc q))[i * 5 + t]? = (qc q i)[t]? := by
    intro t ht
    induction N with
    | zero => omega
    | succ N ih =>
      rw [List.range_succ, List.flatMap_append]
      by_cases hi : i < N
      · rw [List.getElem?_append_left (by rw [len]; omega)]
        exact ih hi
      · have : i = N := by omega
        subst this
        rw [List.getElem?_append_right (by rw [len]; omega), len, show i * 5 + t - i * 5 = t by omega]
        simp
  have k0 := key 0 (by omega)
  rw [Nat.add_zero] at k0
  rw [k0, key 1 (by omega), key 2 (by omega), key 3 (by omega), key 4 (by omega)]
  exact ⟨rfl, rfl, rfl, rfl, rfl⟩

/-- One list of a book, opened. -/
theorem book_at {w : World} {B : Nat} {T e : TypeId} {sz : Nat} {F : Nat → Nat → Value} {a : Option Addr} {N c : Nat} (h : Book w B T e sz F (.slice a N c) N) (i : Nat) (hi : i < N) : ∃ g a0 n0 c0 a1 n1 c1 a2 n2 c2 a3 n3 c3, a = some ⟨g, 0, none⟩ ∧ g < w.heap.size ∧ w.cell? ⟨g, i * 5, none⟩ = some (.slice a0 n0 c0) ∧ w.cell? ⟨g, i * 5 + 1, none⟩ = some (.slice a1 n1 c1) ∧ w.cell? ⟨g, i * 5 + 2, none⟩ = some (.slice a2 n2 c2) ∧ w.cell? ⟨g, i * 5 + 3, none⟩ = some (.slice a3 n3 c3) ∧ w.cell? ⟨g, i * 5 + 4, none⟩ = some (.int .i64 (i : Int)) ∧ (n0 ≤ 4194304 ∧ RdM w e sz (.slice a0 n0 c0) n0 (F i)) ∧ (n1 ≤ 4194304 ∧ RdM w e sz (.slice a1 n1 c1) n1 (F i)) ∧ (n2 ≤ 4194304 ∧ RdM w e sz (.slice a2 n2 c2) n2 (F i)) ∧ (n3 ≤ 4194304 ∧ RdM w e sz (.slice a3 n3 c3) n3 (F i)) := by
  obtain ⟨q, hrow, hall⟩ := h
  obtain ⟨⟨n0, l0, r0⟩, ⟨n1, l1, r1⟩, ⟨n2, l2, r2⟩, ⟨n3, l3, r3⟩⟩ := hall i hi
  obtain ⟨k0, k1, k2, k3, k4⟩ := qc_at (q := q) hi
  obtain ⟨a0, c0, e0', _, _⟩ := rdM_len r0
  obtain ⟨a1, c1, e1', _, _⟩ := rdM_len r1
  obtain ⟨a2, c2, e2', _, _⟩ := rdM_len r2
  obtain ⟨a3, c3, e3', _, _⟩ := rdM_len r3
  rw [e0'] at r0 k0
  rw [e1'] at r1 k1
  rw [e2'] at r2 k2
  rw [e3'] at r3 k3
  have hsome : ∃ g, a = some ⟨g, 0, none⟩ := by
    rcases hrow.2 with ⟨q1, q2⟩ | ⟨g, cap, cur, q1, _⟩
    · omega
    · injection q1 with q1; exact ⟨g, q1⟩
  obtain ⟨g, rfl⟩ := hsome
  have hc := hrow.cells (g := g) rfl
  have ad : ∀ j, (⟨g, 0, none⟩ : Addr).add j = ⟨g, j, none⟩ := fun j => by unfold Addr.add; split <;> simp_all
  refine ⟨g, a0, n0, c0, a1, n1, c1, a2, n2, c2, a3, n3, c3, rfl, (own_ge hrow).2.1, ?_, ?_, ?_, ?_, ?_, ⟨l0, r0⟩, ⟨l1, r1⟩, ⟨l2, r2⟩, ⟨l3, r3⟩⟩
  · have := hc _ _ k0; rwa [ad] at this
  · have := hc _ _ k1; rwa [ad] at this
  · have := hc _ _ k2; rwa [ad] at this
  · have := hc _ _ k3; rwa [ad] at this
  · have := hc _ _ k4; rwa [ad] at this

theorem book_len {w : World} {B : Nat} {T e : TypeId} {sz : Nat} {F : Nat → Nat → Value} {v : Value} {N : Nat} (h : Book w B T e sz F v N) : ∃ a c, v = .slice a N c ∧ N ≤ c ∧ c ≤ maxLen := by
  obtain ⟨q, hrow, _⟩ := h
  exact own_slice hrow

/-- The law's own world: the goods, the lists that came out. -/
structure SInv (w : World) (B wb : Nat) (g0 g1 g2 g3 kb kt ke : Value) (C : Array Value) (Nb Nt Ne : Nat) : Prop where
  blk : w.heap[wb]? = some (Obj.cells C 91 (0, 0))
  ge : B ≤ wb
  cs : C = #[g0, g1, g2, g3, .slice none 0 0, .slice none 0 0, .slice none 0 0, .slice none 0 0, .slice none 0 0, kb, .slice none 0 0, kt, ke, .slice none 0 0, .slice none 0 0]
  bb : Book w B 160 5 1 fB kb Nb
  bt : Book w B 166 9 1 fT kt Nt
  be : Book w B 169 66 3 fE ke Ne

set_option maxRecDepth 100000 in
set_option maxHeartbeats 4000000 in
theorem whole_any (w : World) (B wb : Nat) (g0 g1 g2 g3 kb kt ke : Value) (C : Array Value) (Nb Nt Ne : Nat) (h : SInv w B wb g0 g1 g2 g3 kb kt ke C Nb Nt Ne) (hNb : Nb ≤ 4194304) (hNt : Nt ≤ 4194304) (hNe : Ne ≤ 4194304) :
    Calls Tryz.prog 30 #[.pointer (some ⟨wb, 9, none⟩)] w fun e w' => e = .returned (.bool true) ∧ Below w.heap.size w w' := by
  obtain ⟨hblk, hge, rfl, hbb, hbt, hbe⟩ := h
  have hwlt : wb < w.heap.size := (Array.getElem?_eq_some_iff.1 hblk).1
  have cw9 := (cell_of (j := 9) (u := kb) hblk rfl).1
  have cw10 := (cell_of (j := 10) (u := .slice none 0 0) hblk rfl).1
  have cw11 := (cell_of (j := 11) (u := kt) hblk rfl).1
  have cw12 := (cell_of (j := 12) (u := ke) hblk rfl).1
  have cw13 := (cell_of (j := 13) (u := .slice none 0 0) hblk rfl).1
  have cw14 := (cell_of (j := 14) (u := .slice none 0 0) hblk rfl).1
  obtain ⟨ab, cb, rfl, hb1, hb2⟩ := book_len hbb
  obtain ⟨at_, ct, rfl, ht1, ht2⟩ := book_len hbt
  obtain ⟨ae, ce, rfl, he1, he2⟩ := book_len hbe
  unfold maxLen at hb2 ht2 he2
  have BB := hide hbb
  have BT := hide hbt
  have BE := hide hbe
  clear hbb hbt hbe hblk hge
  go_enter Tryz.func30, Tryz.ntmps30
  go_wp2_with fail
  go_loopw [3, 4] (fun ok i wr => ∃ k : Nat, k ≤ Nb ∧ i = .int .i64 k ∧ ok = .bool true ∧ Below w.heap.size w wr) (fun _ i _ => Nb - (intOf i).toNat)
  case atStart => exact ⟨0, Nat.zero_le _, rfl, rfl, Below.refl _ _⟩
  case round =>
    obtain ⟨k, hk, rfl, rfl, hb⟩ := hrel
    have HB := hide hb
    have hw9 := (hb.cell (p := ⟨wb, 9, none⟩) hwlt).trans cw9
    clear hb
    by_cases hlt : k < Nb
    · obtain ⟨g, a0, n0, c0, a1, n1, c1, a2, n2, c2, a3, n3, c3, rfl, hgl, x0, x1, x2, x3, x4, ⟨l0, r0⟩, ⟨l1, r1⟩, ⟨l2, r2⟩, ⟨l3, r3⟩⟩ := book_at (BB.out.below HB.out) k hlt
      have R0 := hide r0
      have R1 := hide r1
      have R2 := hide r2
      have R3 := hide r3
      clear r0 r1 r2 r3
      have HX0 : Hid ((wr.alloc (Obj.cells #[.slice a0 n0 c0, .slice a1 n1 c1, .slice a2 n2 c2, .slice a3 n3 c3, .int .i64 (k : Int)] 160)).heap[wr.heap.size]? = some (Obj.cells #[.slice a0 n0 c0, .slice a1 n1 c1, .slice a2 n2 c2, .slice a3 n3 c3, .int .i64 (k : Int)] 160 (0, 0))) := by
        show (wr.heap.push _)[wr.heap.size]? = _
        rw [Array.getElem?_push, if_pos rfl]
      have HA0 := hide (below_alloc wr (Obj.cells #[.slice a0 n0 c0, .slice a1 n1 c1, .slice a2 n2 c2, .slice a3 n3 c3, .int .i64 (k : Int)] 160))
      go_wp2_with fail
      generalize wr.alloc (Obj.cells #[.slice a0 n0 c0, .slice a1 n1 c1, .slice a2 n2 c2, .slice a3 n3 c3, .int .i64 (k : Int)] 160) = W0 at *
      generalize hxb : wr.heap.size = xb at *
      have HXB := hide hxb
      clear hxb x0 x1 x2 x3 x4 hw9
      refine (areBytes_any (R0.out.below (by have := HA0.out; rwa [← HXB.out] at this)) (by omega) (by omega)).mono ?_
      rintro e W1 ⟨rfl, hb0⟩
      have HX1 := hide ((hb0.block xb (Array.getElem?_eq_some_iff.1 HX0.out).1).trans HX0.out)
      have HA1 := hide (HA0.out.trans (hb0.mono (by have := HA0.out.size; have q := HXB.out; omega)))
      clear hb0
      obtain ⟨y0, _⟩ := cell_of (j := 1) (u := .slice a1 n1 c1) HX1.out rfl
      obtain ⟨z0, _⟩ := cell_of (j := 4) (u := .int .i64 (k : Int)) HX1.out rfl
      go_wp2_with fail
      clear y0 z0
      refine (areBytes_any (R1.out.below (by have := HA1.out; rwa [← HXB.out] at this)) (by omega) (by omega)).mono ?_
      rintro e W2 ⟨rfl, hb1⟩
      have HX2 := hide ((hb1.block xb (Array.getElem?_eq_some_iff.1 HX1.out).1).trans HX1.out)
      have HA2 := hide (HA1.out.trans (hb1.mono (by have := HA1.out.size; have q := HXB.out; omega)))
      clear hb1
      obtain ⟨y1, _⟩ := cell_of (j := 2) (u := .slice a2 n2 c2) HX2.out rfl
      obtain ⟨z1, _⟩ := cell_of (j := 4) (u := .int .i64 (k : Int)) HX2.out rfl
      go_wp2_with fail
      clear y1 z1
      refine (areBytes_any (R2.out.below (by have := HA2.out; rwa [← HXB.out] at this)) (by omega) (by omega)).mono ?_
      rintro e W3 ⟨rfl, hb2⟩
      have HX3 := hide ((hb2.block xb (Array.getElem?_eq_some_iff.1 HX2.out).1).trans HX2.out)
      have HA3 := hide (HA2.out.trans (hb2.mono (by have := HA2.out.size; have q := HXB.out; omega)))
      clear hb2
      obtain ⟨y2, _⟩ := cell_of (j := 3) (u := .slice a3 n3 c3) HX3.out rfl
      obtain ⟨z2, _⟩ := cell_of (j := 4) (u := .int .i64 (k : Int)) HX3.out rfl
      go_wp2_with fail
      clear y2 z2
      refine (areBytes_any (R3.out.below (by have := HA3.out; rwa [← HXB.out] at this)) (by omega) (by omega)).mono ?_
      rintro e W4 ⟨rfl, hb3⟩
      have HX4 := hide ((hb3.block xb (Array.getElem?_eq_some_iff.1 HX3.out).1).trans HX3.out)
      have HA4 := hide (HA3.out.trans (hb3.mono (by have := HA3.out.size; have q := HXB.out; omega)))
      clear hb3
      go_wp2
      go_roundw
      case rel => exact ⟨k + 1, by omega, by go_num, rfl, HB.out.trans ((by have := HA4.out; rwa [← HXB.out] at this : Below wr.heap.size wr W4).mono HB.out.size)⟩
      case measure => simp [intOf]; omega
    · have hke : k = Nb := by omega
      subst hke
      go_wp2_with fail
      go_loopw [3, 6] (fun ok i wr => i = .int .i64 0 ∧ ok = .bool true ∧ Below w.heap.size w wr) (fun _ _ _ => 0)
      case atStart => exact ⟨rfl, rfl, HB.out⟩
      case round =>
        obtain ⟨rfl, rfl, hb⟩ := hrel
        have hw10 := (hb.cell (p := ⟨wb, 10, none⟩) hwlt).trans cw10
        have HB := hide hb
        clear hb
        go_wp2_with fail
        go_loopw [3, 8] (fun ok i wr => ∃ k : Nat, k ≤ Nt ∧ i = .int .i64 k ∧ ok = .bool true ∧ Below w.heap.size w wr) (fun _ i _ => Nt - (intOf i).toNat)
        case atStart => exact ⟨0, Nat.zero_le _, rfl, rfl, HB.out⟩
        case round =>
          obtain ⟨k, hk, rfl, rfl, hb⟩ := hrel
          have HB := hide hb
          have hw11 := (hb.cell (p := ⟨wb, 11, none⟩) hwlt).trans cw11
          clear hb
          by_cases hlt : k < Nt
          · obtain ⟨g, a0, n0, c0, a1, n1, c1, a2, n2, c2, a3, n3, c3, rfl, hgl, x0, x1, x2, x3, x4, ⟨l0, r0⟩, ⟨l1, r1⟩, ⟨l2, r2⟩, ⟨l3, r3⟩⟩ := book_at (BT.out.below HB.out) k hlt
            have R0 := hide r0
            have R1 := hide r1
            have R2 := hide r2
            have R3 := hide r3
            clear r0 r1 r2 r3
            have HX0 : Hid ((wr.alloc (Obj.cells #[.slice a0 n0 c0, .slice a1 n1 c1, .slice a2 n2 c2, .slice a3 n3 c3, .int .i64 (k : Int)] 166)).heap[wr.heap.size]? = some (Obj.cells #[.slice a0 n0 c0, .slice a1 n1 c1, .slice a2 n2 c2, .slice a3 n3 c3, .int .i64 (k : Int)] 166 (0, 0))) := by
              show (wr.heap.push _)[wr.heap.size]? = _
              rw [Array.getElem?_push, if_pos rfl]
            have HA0 := hide (below_alloc wr (Obj.cells #[.slice a0 n0 c0, .slice a1 n1 c1, .slice a2 n2 c2, .slice a3 n3 c3, .int .i64 (k : Int)] 166))
            go_wp2_with fail
            generalize wr.alloc (Obj.cells #[.slice a0 n0 c0, .slice a1 n1 c1, .slice a2 n2 c2, .slice a3 n3 c3, .int .i64 (k : Int)] 166) = W0 at *
            generalize hxb : wr.heap.size = xb at *
            have HXB := hide hxb
            clear hxb x0 x1 x2 x3 x4 hw11
            refine (areTexts_any (R0.out.below (by have := HA0.out; rwa [← HXB.out] at this)) (by omega)).mono ?_
            rintro e W1 ⟨rfl, hb0⟩
            have HX1 := hide ((hb0.block xb (Array.getElem?_eq_some_iff.1 HX0.out).1).trans HX0.out)
            have HA1 := hide (HA0.out.trans (hb0.mono (by have := HA0.out.size; have q := HXB.out; omega)))
            clear hb0
            obtain ⟨y0, _⟩ := cell_of (j := 1) (u := .slice a1 n1 c1) HX1.out rfl
            obtain ⟨z0, _⟩ := cell_of (j := 4) (u := .int .i64 (k : Int)) HX1.out rfl
            go_wp2_with fail
            clear y0 z0
            refine (areTexts_any (R1.out.below (by have := HA1.out; rwa [← HXB.out] at this)) (by omega)).mono ?_
            rintro e W2 ⟨rfl, hb1⟩
            have HX2 := hide ((hb1.block xb (Array.getElem?_eq_some_iff.1 HX1.out).1).trans HX1.out)
            have HA2 := hide (HA1.out.trans (hb1.mono (by have := HA1.out.size; have q := HXB.out; omega)))
            clear hb1
            obtain ⟨y1, _⟩ := cell_of (j := 2) (u := .slice a2 n2 c2) HX2.out rfl
            obtain ⟨z1, _⟩ := cell_of (j := 4) (u := .int .i64 (k : Int)) HX2.out rfl
            go_wp2_with fail
            clear y1 z1
            refine (areTexts_any (R2.out.below (by have := HA2.out; rwa [← HXB.out] at this)) (by omega)).mono ?_
            rintro e W3 ⟨rfl, hb2⟩
            have HX3 := hide ((hb2.block xb (Array.getElem?_eq_some_iff.1 HX2.out).1).trans HX2.out)
            have HA3 := hide (HA2.out.trans (hb2.mono (by have := HA2.out.size; have q := HXB.out; omega)))
            clear hb2
            obtain ⟨y2, _⟩ := cell_of (j := 3) (u := .slice a3 n3 c3) HX3.out rfl
            obtain ⟨z2, _⟩ := cell_of (j := 4) (u := .int .i64 (k : Int)) HX3.out rfl
            go_wp2_with fail
            clear y2 z2
            refine (areTexts_any (R3.out.below (by have := HA3.out; rwa [← HXB.out] at this)) (by omega)).mono ?_
            rintro e W4 ⟨rfl, hb3⟩
            have HX4 := hide ((hb3.block xb (Array.getElem?_eq_some_iff.1 HX3.out).1).trans HX3.out)
            have HA4 := hide (HA3.out.trans (hb3.mono (by have := HA3.out.size; have q := HXB.out; omega)))
            clear hb3
            go_wp2
            go_roundw
            case rel => exact ⟨k + 1, by omega, by go_num, rfl, HB.out.trans ((by have := HA4.out; rwa [← HXB.out] at this : Below wr.heap.size wr W4).mono HB.out.size)⟩
            case measure => simp [intOf]; omega
          · have hke : k = Nt := by omega
            subst hke
            go_wp2_with fail
            go_loopw [3, 10] (fun ok i wr => ∃ k : Nat, k ≤ Ne ∧ i = .int .i64 k ∧ ok = .bool true ∧ Below w.heap.size w wr) (fun _ i _ => Ne - (intOf i).toNat)
            case atStart => exact ⟨0, Nat.zero_le _, rfl, rfl, HB.out⟩
            case round =>
              obtain ⟨k, hk, rfl, rfl, hb⟩ := hrel
              have HB := hide hb
              have hw12 := (hb.cell (p := ⟨wb, 12, none⟩) hwlt).trans cw12
              clear hb
              by_cases hlt : k < Ne
              · obtain ⟨g, a0, n0, c0, a1, n1, c1, a2, n2, c2, a3, n3, c3, rfl, hgl, x0, x1, x2, x3, x4, ⟨l0, r0⟩, ⟨l1, r1⟩, ⟨l2, r2⟩, ⟨l3, r3⟩⟩ := book_at (BE.out.below HB.out) k hlt
                have R0 := hide r0
                have R1 := hide r1
                have R2 := hide r2
                have R3 := hide r3
                clear r0 r1 r2 r3
                have HX0 : Hid ((wr.alloc (Obj.cells #[.slice a0 n0 c0, .slice a1 n1 c1, .slice a2 n2 c2, .slice a3 n3 c3, .int .i64 (k : Int)] 169)).heap[wr.heap.size]? = some (Obj.cells #[.slice a0 n0 c0, .slice a1 n1 c1, .slice a2 n2 c2, .slice a3 n3 c3, .int .i64 (k : Int)] 169 (0, 0))) := by
                  show (wr.heap.push _)[wr.heap.size]? = _
                  rw [Array.getElem?_push, if_pos rfl]
                have HA0 := hide (below_alloc wr (Obj.cells #[.slice a0 n0 c0, .slice a1 n1 c1, .slice a2 n2 c2, .slice a3 n3 c3, .int .i64 (k : Int)] 169))
                go_wp2_with fail
                generalize wr.alloc (Obj.cells #[.slice a0 n0 c0, .slice a1 n1 c1, .slice a2 n2 c2, .slice a3 n3 c3, .int .i64 (k : Int)] 169) = W0 at *
                generalize hxb : wr.heap.size = xb at *
                have HXB := hide hxb
                clear hxb x0 x1 x2 x3 x4 hw12
                refine (areEntries_any (R0.out.below (by have := HA0.out; rwa [← HXB.out] at this)) (by omega)).mono ?_
                rintro e W1 ⟨rfl, hb0⟩
                have HX1 := hide ((hb0.block xb (Array.getElem?_eq_some_iff.1 HX0.out).1).trans HX0.out)
                have HA1 := hide (HA0.out.trans (hb0.mono (by have := HA0.out.size; have q := HXB.out; omega)))
                clear hb0
                obtain ⟨y0, _⟩ := cell_of (j := 1) (u := .slice a1 n1 c1) HX1.out rfl
                obtain ⟨z0, _⟩ := cell_of (j := 4) (u := .int .i64 (k : Int)) HX1.out rfl
                go_wp2_with fail
                clear y0 z0
                refine (areEntries_any (R1.out.below (by have := HA1.out; rwa [← HXB.out] at this)) (by omega)).mono ?_
                rintro e W2 ⟨rfl, hb1⟩
                have HX2 := hide ((hb1.block xb (Array.getElem?_eq_some_iff.1 HX1.out).1).trans HX1.out)
                have HA2 := hide (HA1.out.trans (hb1.mono (by have := HA1.out.size; have q := HXB.out; omega)))
                clear hb1
                obtain ⟨y1, _⟩ := cell_of (j := 2) (u := .slice a2 n2 c2) HX2.out rfl
                obtain ⟨z1, _⟩ := cell_of (j := 4) (u := .int .i64 (k : Int)) HX2.out rfl
                go_wp2_with fail
                clear y1 z1
                refine (areEntries_any (R2.out.below (by have := HA2.out; rwa [← HXB.out] at this)) (by omega)).mono ?_
                rintro e W3 ⟨rfl, hb2⟩
                have HX3 := hide ((hb2.block xb (Array.getElem?_eq_some_iff.1 HX2.out).1).trans HX2.out)
                have HA3 := hide (HA2.out.trans (hb2.mono (by have := HA2.out.size; have q := HXB.out; omega)))
                clear hb2
                obtain ⟨y2, _⟩ := cell_of (j := 3) (u := .slice a3 n3 c3) HX3.out rfl
                obtain ⟨z2, _⟩ := cell_of (j := 4) (u := .int .i64 (k : Int)) HX3.out rfl
                go_wp2_with fail
                clear y2 z2
                refine (areEntries_any (R3.out.below (by have := HA3.out; rwa [← HXB.out] at this)) (by omega)).mono ?_
                rintro e W4 ⟨rfl, hb3⟩
                have HX4 := hide ((hb3.block xb (Array.getElem?_eq_some_iff.1 HX3.out).1).trans HX3.out)
                have HA4 := hide (HA3.out.trans (hb3.mono (by have := HA3.out.size; have q := HXB.out; omega)))
                clear hb3
                go_wp2
                go_roundw
                case rel => exact ⟨k + 1, by omega, by go_num, rfl, HB.out.trans ((by have := HA4.out; rwa [← HXB.out] at this : Below wr.heap.size wr W4).mono HB.out.size)⟩
                case measure => simp [intOf]; omega
              · have hke : k = Ne := by omega
                subst hke
                go_wp2_with fail
                go_loopw [3, 12] (fun ok i wr => i = .int .i64 0 ∧ ok = .bool true ∧ Below w.heap.size w wr) (fun _ _ _ => 0)
                case atStart => exact ⟨rfl, rfl, HB.out⟩
                case round =>
                  obtain ⟨rfl, rfl, hb⟩ := hrel
                  have hw13 := (hb.cell (p := ⟨wb, 13, none⟩) hwlt).trans cw13
                  have HB := hide hb
                  clear hb
                  go_wp2_with fail
                  go_loopw [3, 14] (fun ok i wr => i = .int .i64 0 ∧ ok = .bool true ∧ Below w.heap.size w wr) (fun _ _ _ => 0)
                  case atStart => exact ⟨rfl, rfl, HB.out⟩
                  case round =>
                    obtain ⟨rfl, rfl, hb⟩ := hrel
                    have hw14 := (hb.cell (p := ⟨wb, 14, none⟩) hwlt).trans cw14
                    have HB := hide hb
                    clear hb
                    go_wp2_with fail
                    go_ret
                    exact ⟨rfl, HB.out⟩
end Go.Proofs.YtkncboinfcnklaaGreatDoor
