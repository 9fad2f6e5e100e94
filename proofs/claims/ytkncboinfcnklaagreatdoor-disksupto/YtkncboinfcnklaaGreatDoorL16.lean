import Derived.Test.YtkncboinfcnklaaGreatDoorL15
namespace Go.Proofs.YtkncboinfcnklaaGreatDoor
open Go.RowKit Go.Deep Go.Proofs.YtkncboinfcnklaaGreatDoor.Mth

/-- A step of a script. -/
structure Opr where
  k : Int
  A : Int
  B : Int
  C : Int
  S : ByteArray
  T : ByteArray
def o0 : Opr := ⟨0, 0, 0, 0, ⟨#[]⟩, ⟨#[]⟩⟩
def oV (o : Opr) : Value := .agg #[.int .i64 o.k, .int .i64 o.A, .int .i64 o.B, .int .i64 o.C, .string o.S, .string o.T]
/-- Steps that may be: numbers of the machine, texts that are not too long. -/
def OkO (o : Opr) : Prop := -9223372036854775808 ≤ o.A ∧ o.A < 9223372036854775808 ∧ o.S.size ≤ 1048576

theorem seg_any (Win w : World) (wb : Nat) (g0 g1 g2 g3 : Value) (Es : List (List Ent)) (M : Nat) (o : Opr) (hW : Below Win.heap.size Win w) (hSI : SI w Win.heap.size wb g0 g1 g2 g3 M) (hT : Tab Win) (hG : RdEE Win g2 Es) (hEl : ∀ E ∈ Es, E.length ≤ 1048576) (hEs : Es.length ≤ 1048576) (ho : OkO o) (hk : 7 ≤ o.k ∧ o.k ≤ 9) (hM : M ≤ 1048576) :
    Calls Tryz.prog 65 #[.pointer (some ⟨wb, 0, none⟩), oV o] w fun e w' => e = .returned (.bool true) ∧ Below Win.heap.size Win w' ∧ SI w' Win.heap.size wb g0 g1 g2 g3 (M + 1) ∧ KeepO w w' := by
  obtain ⟨k, A, B, C, S, T⟩ := o
  obtain ⟨ha0, ha1, hs⟩ := ho
  simp only at ha0 ha1 hs hk
  have : k = 7 ∨ k = 8 ∨ k = 9 := by omega
  rcases this with rfl | rfl | rfl
  · exact seg_words Win w wb g0 g1 g2 g3 M A B C S T hW hSI hT hs hM
  · exact seg_pack Win w wb g0 g1 g2 g3 Es M A B C S T hW hSI hT hG hEl hEs ha0 ha1 hM
  · exact seg_unpack Win w wb g0 g1 g2 g3 M A B C S T hW hSI hT hs hM

set_option maxRecDepth 100000 in
set_option maxHeartbeats 1000000 in
theorem step_any (Win w : World) (wb : Nat) (g0 g1 g2 g3 : Value) (Es : List (List Ent)) (M : Nat) (o : Opr) (hW : Below Win.heap.size Win w) (hSI : SI w Win.heap.size wb g0 g1 g2 g3 M) (hT : Tab Win) (hG : RdEE Win g2 Es) (hEl : ∀ E ∈ Es, E.length ≤ 1048576) (hEs : Es.length ≤ 1048576) (ho : OkO o) (hk : 7 ≤ o.k ∧ o.k ≤ 9) (hM : M ≤ 1048576) :
    Calls Tryz.prog 29 #[.pointer (some ⟨wb, 0, none⟩), oV o] w fun e w' => e = .returned (.bool true) ∧ Below Win.heap.size Win w' ∧ SI w' Win.heap.size wb g0 g1 g2 g3 (M + 1) ∧ KeepO w w' := by
  have hsw := hW.size
  have HB1 := hide (below_alloc w (Obj.cells #[.int .i64 o.k, .int .i64 o.A, .int .i64 o.B, .int .i64 o.C, .string o.S, .string o.T] 94))
  have CS := hide (seg_any Win (w.alloc (Obj.cells #[.int .i64 o.k, .int .i64 o.A, .int .i64 o.B, .int .i64 o.C, .string o.S, .string o.T] 94)) wb g0 g1 g2 g3 Es M o (hW.trans (HB1.out.mono hsw)) (hSI.below HB1.out) hT hG hEl hEs ho hk hM)
  clear hW hSI hT hG hEl hEs ho
  obtain ⟨k, A, B, C, S, T⟩ := o
  obtain ⟨hk1, hk2⟩ := hk
  simp only [oV] at CS hk1 hk2 ⊢
  have q1 : ¬ k < 1 := by omega
  have q2 : ¬ 22 < k := by omega
  have q3 : ¬ k ≤ 6 := by omega
  go_enter Tryz.func29, Tryz.ntmps29
  go_wp2_with fail
  refine CS.out.mono ?_
  rintro e w' ⟨rfl, h1, h2, h3⟩
  have H1 := hide h1
  have H2 := hide h2
  have H3 : Hid (KeepO w w') := fun g E hE => (h3 g E ((HB1.out.block g (Array.getElem?_eq_some_iff.1 hE).1).trans hE)).trans (HB1.out.block g (Array.getElem?_eq_some_iff.1 hE).1)
  clear h1 h2 h3 CS
  go_wp2
  go_ret
  exact ⟨rfl, H1.out, H2.out, H3.out⟩

/-- A script that is read. -/
def RdO (w : World) (v : Value) (l : List Opr) : Prop :=
  ∃ (a : Option Addr) (c : Nat), v = .slice a l.length c ∧ l.length ≤ c ∧ c ≤ maxLen ∧ (l = [] ∨ ∃ b o, a = some ⟨b, o, none⟩ ∧ ∀ j, j < l.length → w.cell? ⟨b, o + j * 6, none⟩ = some (.int .i64 (l.getD j o0).k) ∧ w.cell? ⟨b, o + j * 6 + 1, none⟩ = some (.int .i64 (l.getD j o0).A) ∧ w.cell? ⟨b, o + j * 6 + 2, none⟩ = some (.int .i64 (l.getD j o0).B) ∧ w.cell? ⟨b, o + j * 6 + 3, none⟩ = some (.int .i64 (l.getD j o0).C) ∧ w.cell? ⟨b, o + j * 6 + 4, none⟩ = some (.string (l.getD j o0).S) ∧ w.cell? ⟨b, o + j * 6 + 5, none⟩ = some (.string (l.getD j o0).T))

theorem RdO.below {w w' : World} {v : Value} {l : List Opr} (h : RdO w v l) (hb : Below w.heap.size w w') : RdO w' v l := by
  obtain ⟨a, c, rfl, hc, hm, h⟩ := h
  refine ⟨a, c, rfl, hc, hm, ?_⟩
  rcases h with h | ⟨b, o, rfl, h⟩
  · exact Or.inl h
  · refine Or.inr ⟨b, o, rfl, fun j hj => ?_⟩
    obtain ⟨h0, h1, h2, h3, h4, h5⟩ := h j hj
    have hlt : b < w.heap.size := World.block_lt_of_cell? _ _ h0
    exact ⟨(hb.cell (p := ⟨b, _, none⟩) hlt).trans h0, (hb.cell (p := ⟨b, _, none⟩) hlt).trans h1, (hb.cell (p := ⟨b, _, none⟩) hlt).trans h2, (hb.cell (p := ⟨b, _, none⟩) hlt).trans h3, (hb.cell (p := ⟨b, _, none⟩) hlt).trans h4, (hb.cell (p := ⟨b, _, none⟩) hlt).trans h5⟩
theorem rdO_len {w : World} {v : Value} {l : List Opr} (h : RdO w v l) : ∃ a c, v = .slice a l.length c ∧ l.length ≤ c ∧ c ≤ maxLen := by
  obtain ⟨a, c, rfl, hc, hm, _⟩ := h
  exact ⟨a, c, rfl, hc, hm⟩
theorem rdO_at {w : World} {a : Option Addr} {n c : Nat} {l : List Opr} (h : RdO w (.slice a n c) l) (j : Nat) (hj : j < l.length) : ∃ b o, a = some ⟨b, o, none⟩ ∧ b < w.heap.size ∧ w.cell? ⟨b, o + j * 6, none⟩ = some (.int .i64 (l.getD j o0).k) ∧ w.cell? ⟨b, o + j * 6 + 1, none⟩ = some (.int .i64 (l.getD j o0).A) ∧ w.cell? ⟨b, o + j * 6 + 2, none⟩ = some (.int .i64 (l.getD j o0).B) ∧ w.cell? ⟨b, o + j * 6 + 3, none⟩ = some (.int .i64 (l.getD j o0).C) ∧ w.cell? ⟨b, o + j * 6 + 4, none⟩ = some (.string (l.getD j o0).S) ∧ w.cell? ⟨b, o + j * 6 + 5, none⟩ = some (.string (l.getD j o0).T) := by
  obtain ⟨a', c', e, _, _, h⟩ := h
  injection e with e1 e2 e3
  rcases h with h | ⟨b, o, e4, h⟩
  · subst h; simp at hj
  · exact ⟨b, o, e1.trans e4, World.block_lt_of_cell? _ _ (h j hj).1, h j hj⟩

/-- The law's world as it is made. -/
theorem SI.new (w : World) (g0 g1 g2 g3 : Value) : SI (w.alloc (Obj.cells #[g0, g1, g2, g3, .slice none 0 0, .slice none 0 0, .slice none 0 0, .slice none 0 0, .slice none 0 0, .slice none 0 0, .slice none 0 0, .slice none 0 0, .slice none 0 0, .slice none 0 0, .slice none 0 0] 91)) w.heap.size w.heap.size g0 g1 g2 g3 0 := by
  have nil : ∀ (W : World) (T e : TypeId) (sz : Nat) (F : Nat → Nat → Value), Book W w.heap.size T e sz F (.slice none 0 0) 0 := fun W T e sz F => ⟨fun _ => ⟨.slice none 0 0, .slice none 0 0, .slice none 0 0, .slice none 0 0⟩, World.ownsRow_nil _ _ _ _, fun i hi => absurd hi (Nat.not_lt_zero _)⟩
  refine ⟨_, _, _, _, 0, 0, 0, ⟨?_, Nat.le_refl _, rfl, nil _ _ _ _ _, nil _ _ _ _ _, nil _ _ _ _ _⟩, Nat.le_refl _, Nat.le_refl _, Nat.le_refl _⟩
  show (w.heap.push _)[w.heap.size]? = _
  rw [Array.getElem?_push, if_pos rfl]
end Go.Proofs.YtkncboinfcnklaaGreatDoor
