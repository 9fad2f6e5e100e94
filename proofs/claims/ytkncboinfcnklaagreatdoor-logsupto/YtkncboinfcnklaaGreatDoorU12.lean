import Derived.Test.YtkncboinfcnklaaGreatDoorQ31
import Derived.Deep.RegionHeld3
namespace Go.Proofs.YtkncboinfcnklaaGreatDoor.Lw
open Go.RowKit Go.Deep Go.Shelf Go.Proofs.YtkncboinfcnklaaGreatDoor.Mth Go.Proofs.YtkncboinfcnklaaGreatDoor.Rl

/-! ### configurations that are read -/
structure Cf where
  m : Int
  f : Int
  b : Int
  n : Int
  k : Int
  t : Int
def cf0 : Cf := ⟨0, 0, 0, 0, 0, 0⟩
abbrev cfA (c : Cf) : Array Value := #[.int .i64 c.m, .int .i64 c.f, .int .i64 c.b, .int .i64 c.n, .int .i64 c.k, .int .i64 c.t]
def RdC (w : World) (v : Value) (l : List Cf) : Prop :=
  ∃ (a : Option Addr) (c : Nat), v = .slice a l.length c ∧ l.length ≤ c ∧ c ≤ maxLen ∧ (l = [] ∨ ∃ b o, a = some ⟨b, o, none⟩ ∧ ∀ j, j < l.length → w.cell? ⟨b, o + j * 6, none⟩ = some (.int .i64 (l.getD j cf0).m) ∧ w.cell? ⟨b, o + j * 6 + 1, none⟩ = some (.int .i64 (l.getD j cf0).f) ∧ w.cell? ⟨b, o + j * 6 + 2, none⟩ = some (.int .i64 (l.getD j cf0).b) ∧ w.cell? ⟨b, o + j * 6 + 3, none⟩ = some (.int .i64 (l.getD j cf0).n) ∧ w.cell? ⟨b, o + j * 6 + 4, none⟩ = some (.int .i64 (l.getD j cf0).k) ∧ w.cell? ⟨b, o + j * 6 + 5, none⟩ = some (.int .i64 (l.getD j cf0).t))
theorem RdC.below {w w' : World} {v : Value} {l : List Cf} (h : RdC w v l) (hb : Below w.heap.size w w') : RdC w' v l := by
  obtain ⟨a, c, rfl, hc, hm, h⟩ := h
  refine ⟨a, c, rfl, hc, hm, ?_⟩
  rcases h with h | ⟨b, o, rfl, h⟩
  · exact Or.inl h
  · refine Or.inr ⟨b, o, rfl, fun j hj => ?_⟩
    have hc : ∀ {k : Nat} {u : Value}, w.cell? ⟨b, k, none⟩ = some u → w'.cell? ⟨b, k, none⟩ = some u := fun {k u} q => (hb.cell (p := ⟨b, k, none⟩) (World.block_lt_of_cell? _ _ q)).trans q
    obtain ⟨c0, c1, c2, c3, c4, c5⟩ := h j hj
    exact ⟨hc c0, hc c1, hc c2, hc c3, hc c4, hc c5⟩
theorem rdC_at {w : World} {a : Option Addr} {n c : Nat} {l : List Cf} (h : RdC w (.slice a n c) l) (j : Nat) (hj : j < l.length) : ∃ b o, a = some ⟨b, o, none⟩ ∧ b < w.heap.size ∧ w.cell? ⟨b, o + j * 6, none⟩ = some (.int .i64 (l.getD j cf0).m) ∧ w.cell? ⟨b, o + j * 6 + 1, none⟩ = some (.int .i64 (l.getD j cf0).f) ∧ w.cell? ⟨b, o + j * 6 + 2, none⟩ = some (.int .i64 (l.getD j cf0).b) ∧ w.cell? ⟨b, o + j * 6 + 3, none⟩ = some (.int .i64 (l.getD j cf0).n) ∧ w.cell? ⟨b, o + j * 6 + 4, none⟩ = some (.int .i64 (l.getD j cf0).k) ∧ w.cell? ⟨b, o + j * 6 + 5, none⟩ = some (.int .i64 (l.getD j cf0).t) := by
  obtain ⟨a', c', e, _, _, h⟩ := h
  injection e with e1 e2 e3
  rcases h with h | ⟨b, o, e4, h⟩
  · subst h; simp at hj
  · exact ⟨b, o, e1.trans e4, World.block_lt_of_cell? _ _ (h j hj).1, h j hj⟩

set_option maxRecDepth 100000 in
set_option maxHeartbeats 2000000 in
/-- There is no configuration. -/
theorem made_none {w : World} {wb : Nat} {C : Array Value} (hblk : w.heap[wb]? = some (Obj.cells C 91 (0, 0))) (a : Option Addr) (c : Nat) (h3 : C[3]? = some (.slice a 0 c)) (o : Opr) :
    Calls Tryz.prog 66 #[ptrV wb, oV o] w fun e w' => e = .returned (.bool true) ∧ Below w.heap.size w w' := by
  obtain ⟨k, A, B, C', S, T⟩ := o
  simp only [oV]
  have HB := hide (below_allocG w (Obj.cells #[.int .i64 k, .int .i64 A, .int .i64 B, .int .i64 C', .string S, .string T] 94))
  have d3 := (cell_of ((HB.out.block wb (Array.getElem?_eq_some_iff.1 hblk).1).trans hblk) h3).1
  clear hblk h3
  go_enter Tryz.func66, Tryz.ntmps66
  go_wp2
  go_ret
  exact ⟨rfl, HB.out⟩

set_option maxRecDepth 100000 in
set_option maxHeartbeats 4000000 in
theorem made_nob {w : World} {wb : Nat} {C : Array Value} (hblk : w.heap[wb]? = some (Obj.cells C 91 (0, 0))) {g3 : Value} (h3 : C[3]? = some g3) {Cs : List Cf} (hG : RdC w g3 Cs) (hl : 0 < Cs.length) (hl2 : Cs.length ≤ 1048576) (A B C' : Int) (S T : ByteArray) (hA : -9223372036854775808 ≤ A ∧ A < 9223372036854775808) :
    Calls Tryz.prog 66 #[ptrV wb, oV ⟨11, A, B, C', S, T⟩] w fun e w' => e = .returned (.bool true) ∧ Below w.heap.size w w' := by
  simp only [oV]
  obtain ⟨W0, hW0⟩ : ∃ W0, W0 = w.alloc (Obj.cells #[.int .i64 11, .int .i64 A, .int .i64 B, .int .i64 C', .string S, .string T] 94) := ⟨_, rfl⟩
  have b0 : Below w.heap.size w W0 := by rw [hW0]; exact below_allocG _ _
  have k0 : W0.heap[w.heap.size]? = some (Obj.cells #[.int .i64 11, .int .i64 A, .int .i64 B, .int .i64 C', .string S, .string T] 94 (0, 0)) := by rw [hW0]; exact new_blk _ _ _
  have hG0 := hG.below b0
  obtain ⟨ga, gc, rfl, hgc, hgm, hGx⟩ := hG
  clear hGx
  unfold maxLen at hgm
  have d3 := (cell_of ((b0.block wb (Array.getElem?_eq_some_iff.1 hblk).1).trans hblk) h3).1
  have dA := (cell_of (j := 1) (u := .int .i64 A) k0 rfl).1
  have d0 := (cell_of (j := 0) (u := .int .i64 11) k0 rfl).1
  obtain ⟨r, hr0, hr1, hpk⟩ := pick_fix A (Cs.length : Int) hA.1 hA.2 (by omega) (by omega)
  obtain ⟨i, rfl⟩ := Int.eq_ofNat_of_zero_le hr0
  have hi : i < Cs.length := by omega
  obtain ⟨cb, co, rfl, hcb, e0, e1, e2, e3, e4, e5⟩ := rdC_at hG0 i hi
  generalize Cs.getD i cf0 = cf at *
  obtain ⟨cm, cf, cbk, cn, ck, ct⟩ := cf
  simp only at e0 e1 e2 e3 e4 e5
  generalize hCn : Cs.length = nC at *
  have HPK := hide hpk
  have HW := hide hW0
  have HB0 := hide b0
  have hnw : w.heap.size < W0.heap.size := (Array.getElem?_eq_some_iff.1 k0).1
  have hwb : wb < W0.heap.size := by have := World.block_lt_of_cell? _ _ d3; exact this
  generalize hob : w.heap.size = ob at *
  have HOB := hide hob
  clear hblk h3 hG0 hCn hpk hW0 hob b0 k0
  go_enter Tryz.func66, Tryz.ntmps66
  go_upto_region 1 with fail
  rw [HOB.out, ← HW.out]
  go_upto_region 3 with fail
  go_cut [5] from 14 (fun v wq => ∃ q, v = ptrV q ∧ wq.heap[q]? = some (Obj.cells #[.int .i64 cm, .int .i64 cf, .int .i64 cbk, .int .i64 cn, .int .i64 ck, .int .i64 ct] 56 (0, 0)) ∧ Below W0.heap.size W0 wq)
  case first =>
    have n1 : W0.heap.size ≠ wb := by omega
    have n2 : W0.heap.size ≠ ob := by omega
    have n3 : W0.heap.size ≠ cb := by omega
    have HM1 : Hid ((W0.alloc (Obj.cells #[.int .i64 cm, .int .i64 cf, .int .i64 cbk, .int .i64 cn, .int .i64 ck, .int .i64 ct] 56)).drew.heap[W0.heap.size]? = some (Obj.cells #[.int .i64 cm, .int .i64 cf, .int .i64 cbk, .int .i64 cn, .int .i64 ck, .int .i64 ct] 56 (0, 0))) := new_blk W0 #[.int .i64 cm, .int .i64 cf, .int .i64 cbk, .int .i64 cn, .int .i64 ck, .int .i64 ct] 56
    have HM2 : Hid (Below W0.heap.size W0 (W0.alloc (Obj.cells #[.int .i64 cm, .int .i64 cf, .int .i64 cbk, .int .i64 cn, .int .i64 ck, .int .i64 ct] 56)).drew) := (below_allocG W0 _).trans ((drewB _).mono (by simp))
    go_region_held3 (fun w' => w'.cell? ⟨wb, 3, none⟩ = some (.slice (some ⟨cb, co, none⟩) nC gc) ∧ w'.cell? ⟨ob, 1, none⟩ = some (.int .i64 A) ∧ w'.cell? ⟨cb, co + i * 6, none⟩ = some (.int .i64 cm) ∧ w'.cell? ⟨cb, co + i * 6 + 1, none⟩ = some (.int .i64 cf) ∧ w'.cell? ⟨cb, co + i * 6 + 2, none⟩ = some (.int .i64 cbk) ∧ w'.cell? ⟨cb, co + i * 6 + 3, none⟩ = some (.int .i64 cn) ∧ w'.cell? ⟨cb, co + i * 6 + 4, none⟩ = some (.int .i64 ck) ∧ w'.cell? ⟨cb, co + i * 6 + 5, none⟩ = some (.int .i64 ct)) (go_keep) (first | (go_at_call 15; refine (HPK.out _).mono ?_; rintro e W ⟨rfl, hW⟩; rw [hW]; clear hW W))
    all_goals (go_wp2_with fail; go_meet; exact ⟨_, rfl, HM1.out, HM2.out⟩)
  case rest =>
    obtain ⟨q, rfl, hq, hbq⟩ := hcut
    have o0 := (hbq.cell (p := ⟨ob, 0, none⟩) hnw).trans d0
    obtain ⟨x0, _⟩ := cell_of (j := 0) (u := .int .i64 cm) hq rfl
    obtain ⟨x1, _⟩ := cell_of (j := 1) (u := .int .i64 cf) hq rfl
    obtain ⟨x2, _⟩ := cell_of (j := 2) (u := .int .i64 cbk) hq rfl
    obtain ⟨x3, _⟩ := cell_of (j := 3) (u := .int .i64 cn) hq rfl
    obtain ⟨x4, _⟩ := cell_of (j := 4) (u := .int .i64 ck) hq rfl
    obtain ⟨x5, _⟩ := cell_of (j := 5) (u := .int .i64 ct) hq rfl
    have HBQ := hide hbq
    have CN := hide (new_nobody (w := wc) cm cf cbk cn ck ct)
    clear hbq hq e0 e1 e2 e3 e4 e5 d3 dA d0
    go_wp2_with (first
      | (go_at_call 85; refine CN.out.mono ?_; rintro e W ⟨rfl, hW⟩; have HBW := hide hW; clear hW))
    go_ret
    refine ⟨rfl, ?_⟩
    have h1 := HB0.out.size
    exact HB0.out.trans ((HBQ.out.mono (by omega)).trans (HBW.out.mono (by have := HBQ.out.size; omega)))
end Go.Proofs.YtkncboinfcnklaaGreatDoor.Lw
