import Derived.Test.YtkncboinfcnklaaGreatDoorLa
import Derived.Deep.RegionLaw
namespace Go.Proofs.YtkncboinfcnklaaGreatDoor
open Go.RowKit Go.Deep Go.Proofs.YtkncboinfcnklaaGreatDoor.Mth

/-! ### a disk, as a value -/
structure Fl where
  name : ByteArray
  data : ByteArray
  safe : Nat
def fl0 : Fl := ⟨⟨#[]⟩, ⟨#[]⟩, 0⟩
def fC (f : Fl) : List Value := [.string f.name, .string f.data, .int .i64 (f.safe : Int)]
theorem fC_len (l : List Fl) : (l.flatMap fC).length = l.length * 3 := by
  induction l with
  | nil => rfl
  | cons f l ih => rw [List.flatMap_cons, List.length_append, ih]; simp [fC]; omega
theorem fC_at : ∀ {l : List Fl} {j : Nat}, j < l.length → (l.flatMap fC)[j * 3]? = some (.string (l.getD j fl0).name) ∧ (l.flatMap fC)[j * 3 + 1]? = some (.string (l.getD j fl0).data) ∧ (l.flatMap fC)[j * 3 + 2]? = some (.int .i64 ((l.getD j fl0).safe : Int))
  | f :: l, 0, _ => by simp [fC]
  | f :: l, j + 1, h => by
    obtain ⟨a, b, c⟩ := fC_at (l := l) (j := j) (by simpa using h)
    rw [List.flatMap_cons]
    refine ⟨?_, ?_, ?_⟩
    · rw [List.getElem?_append_right (by simp [fC]; omega)]; simpa [fC, show (j + 1) * 3 - 3 = j * 3 by omega] using a
    · rw [List.getElem?_append_right (by simp [fC]; omega)]; simpa [fC, show (j + 1) * 3 + 1 - 3 = j * 3 + 1 by omega] using b
    · rw [List.getElem?_append_right (by simp [fC]; omega)]; simpa [fC, show (j + 1) * 3 + 2 - 3 = j * 3 + 2 by omega] using c

/-- What may be touched of the blocks that were there. -/
structure Tch (S : Nat → Prop) (w w' : World) : Prop where
  os : w'.os = w.os
  tape : w'.tape = w.tape
  output : w'.output = w.output
  size : w.heap.size ≤ w'.heap.size
  block : ∀ k, k < w.heap.size → ¬ S k → w'.heap[k]? = w.heap[k]?
theorem Tch.refl (S : Nat → Prop) (w : World) : Tch S w w := ⟨rfl, rfl, rfl, Nat.le_refl _, fun _ _ _ => rfl⟩
theorem tch_below {S : Nat → Prop} {w w' : World} (h : Below w.heap.size w w') : Tch S w w' := ⟨h.os, h.tape, h.output, h.size, fun k hk _ => h.block k hk⟩
theorem Tch.trans {S S' : Nat → Prop} {w w1 w2 : World} (h : Tch S w w1) (h2 : Tch S' w1 w2) (hs : ∀ k, k < w.heap.size → S' k → S k) : Tch S w w2 :=
  ⟨h2.os.trans h.os, h2.tape.trans h.tape, h2.output.trans h.output, Nat.le_trans h.size h2.size, fun k hk hn => (h2.block k (Nat.lt_of_lt_of_le hk h.size) (fun q => hn (hs k hk q))).trans (h.block k hk hn)⟩
theorem Tch.mono {S S' : Nat → Prop} {w w1 : World} (h : Tch S w w1) (hs : ∀ k, k < w.heap.size → S k → S' k) : Tch S' w w1 := ⟨h.os, h.tape, h.output, h.size, fun k hk hn => h.block k hk (fun q => hn (hs k hk q))⟩

/-- A disk at block b: its files, for how many steps it goes on. -/
structure St (T e : TypeId) (w : World) (B b : Nat) (fs : List Fl) (left : Int) (fv : Value) : Prop where
  blk : w.heap[b]? = some (Obj.cells #[fv, .int .i64 left] T (0, 0))
  own : w.ownsRow B e 3 fv fs.length (fs.flatMap fC)
  ge : B ≤ b

def ownD (b : Nat) (fv : Value) (k : Nat) : Prop := k = b ∨ some k = fv.ownBlock

/-- What a call leaves of a disk. -/
structure Stp (T e : TypeId) (B b : Nat) (w w' : World) (fv : Value) (fs' : List Fl) (left' : Int) (fv' : Value) : Prop where
  st : St T e w' B b fs' left' fv'
  tch : Tch (ownD b fv) w w'
  new : ∀ g, some g = fv'.ownBlock → some g = fv.ownBlock ∨ w.heap.size ≤ g

theorem St.lt {T e : TypeId} {w : World} {B b : Nat} {fs : List Fl} {left : Int} {fv : Value} (h : St T e w B b fs left fv) : b < w.heap.size := (Array.getElem?_eq_some_iff.1 h.blk).1
theorem St.same {T e : TypeId} {w w' : World} {B b : Nat} {fs : List Fl} {left : Int} {fv : Value} (h : St T e w B b fs left fv) (hs : ∀ g, ownD b fv g → w'.heap[g]? = w.heap[g]?) : St T e w' B b fs left fv :=
  ⟨(hs b (Or.inl rfl)).trans h.blk, own_same h.own (fun g hg => hs g (Or.inr hg)), h.ge⟩
theorem St.ownLt {T e : TypeId} {w : World} {B b : Nat} {fs : List Fl} {left : Int} {fv : Value} (h : St T e w B b fs left fv) {g : Nat} (hg : ownD b fv g) : g < w.heap.size := by
  rcases hg with rfl | hg
  · exact h.lt
  · exact (own_block h.own hg).2.1
theorem St.below {T e : TypeId} {w w' : World} {B b : Nat} {fs : List Fl} {left : Int} {fv : Value} (h : St T e w B b fs left fv) (hb : Below w.heap.size w w') : St T e w' B b fs left fv :=
  h.same fun g hg => hb.block g (h.ownLt hg)
theorem St.ne {T e : TypeId} {w : World} {B b : Nat} {fs : List Fl} {left : Int} {fv : Value} (h : St T e w B b fs left fv) (hT : T ≠ e) : some b ≠ fv.ownBlock := by
  intro q
  obtain ⟨_, _, D, hD⟩ := own_block h.own q
  rw [h.blk] at hD
  injection hD with hD
  injection hD with _ hD _
  exact hT hD

theorem Stp.refl {T e : TypeId} {w : World} {B b : Nat} {fs : List Fl} {left : Int} {fv : Value} (h : St T e w B b fs left fv) : Stp T e B b w w fv fs left fv := ⟨h, Tch.refl _ _, fun _ q => Or.inl q⟩
theorem Stp.trans {T e : TypeId} {B b : Nat} {w w1 w2 : World} {fv fv1 fv2 : Value} {fs1 fs2 : List Fl} {l1 l2 : Int} (h1 : Stp T e B b w w1 fv fs1 l1 fv1) (h2 : Stp T e B b w1 w2 fv1 fs2 l2 fv2) : Stp T e B b w w2 fv fs2 l2 fv2 := by
  refine ⟨h2.st, h1.tch.trans h2.tch (fun k hk q => ?_), fun g hg => ?_⟩
  · rcases q with q | q
    · exact Or.inl q
    · rcases h1.new k q with q | q
      · exact Or.inr q
      · omega
  · rcases h2.new g hg with q | q
    · exact h1.new g q
    · exact Or.inr (Nat.le_trans h1.tch.size q)
theorem Stp.below {T e : TypeId} {B b : Nat} {w w1 w2 : World} {fv fv1 : Value} {fs1 : List Fl} {l1 : Int} (h1 : Stp T e B b w w1 fv fs1 l1 fv1) (hb : Below w1.heap.size w1 w2) : Stp T e B b w w2 fv fs1 l1 fv1 :=
  ⟨h1.st.below hb, h1.tch.trans (tch_below (S := ownD b fv) hb) (fun _ _ q => q), h1.new⟩
theorem Stp.pre {T e : TypeId} {B b : Nat} {w w1 w2 : World} {fv fv1 : Value} {fs1 : List Fl} {l1 : Int} (hb : Below w.heap.size w w1) (h1 : Stp T e B b w1 w2 fv fs1 l1 fv1) : Stp T e B b w w2 fv fs1 l1 fv1 :=
  ⟨h1.st, (tch_below (S := ownD b fv) hb).trans h1.tch (fun _ _ q => q), fun g hg => (h1.new g hg).imp id (Nat.le_trans hb.size)⟩

theorem St.setLeft {T e : TypeId} {w : World} {B b : Nat} {fs : List Fl} {left l' : Int} {fv : Value} (h : St T e w B b fs left fv) (hT : T ≠ e) : Stp T e B b w (w.setCell ⟨b, 1, none⟩ (.int .i64 l')) fv fs l' fv := by
  refine ⟨⟨?_, own_set_other h.own h.blk hT, h.ge⟩, ⟨rfl, rfl, rfl, by simp, fun k _ hn => set_other (fun q => hn (Or.inl q))⟩, fun _ q => Or.inl q⟩
  simp [World.setCell, Array.getElem?_modify, h.blk]
theorem St.setFiles {T e : TypeId} {w w1 : World} {B b : Nat} {fs fs' : List Fl} {left : Int} {fv fv' : Value} (h : St T e w B b fs left fv) (hT : T ≠ e) (ho : w1.ownsRow B e 3 fv' fs'.length (fs'.flatMap fC)) (ht : Tch (fun k => some k = fv.ownBlock) w w1) (hn : ∀ g, some g = fv'.ownBlock → some g = fv.ownBlock ∨ w.heap.size ≤ g) : Stp T e B b w (w1.setCell ⟨b, 0, none⟩ fv') fv fs' left fv' := by
  have hb1 : w1.heap[b]? = some (Obj.cells #[fv, .int .i64 left] T (0, 0)) := (ht.block b h.lt (h.ne hT)).trans h.blk
  refine ⟨⟨?_, own_set_other ho hb1 hT, h.ge⟩, ⟨ht.os, ht.tape, ht.output, by have := ht.size; simpa using this, fun k hk hn => ?_⟩, hn⟩
  · simp [World.setCell, Array.getElem?_modify, hb1]
  · rw [set_other (fun q => hn (Or.inl q))]
    exact ht.block k hk (fun q => hn (Or.inr q))

def decL (l : Int) : Int := if 0 < l then l - 1 else l

set_option maxHeartbeats 1000000 in
theorem apiStep_any {w : World} {B b : Nat} {fs : List Fl} {left : Int} {fv : Value} (h : St 100 109 w B b fs left fv) (h1 : -1 ≤ left) (h2 : left < 9223372036854775808) :
    Calls Tryz.prog 76 #[.pointer (some ⟨b, 0, none⟩)] w fun e w' => e = .returned (.bool (decide (left ≠ 0))) ∧ Stp 100 109 B b w w' fv fs (decL left) fv := by
  obtain ⟨c1, f1⟩ := cell_of (j := 1) (u := .int .i64 left) h.blk rfl
  have HS := hide h
  clear h
  by_cases q : left = 0
  · subst q
    go_enter Tryz.func76, Tryz.ntmps76
    go_wp2
    go_ret
    exact ⟨rfl, Stp.refl HS.out⟩
  · by_cases q2 : 0 < left
    · have d1 : decide (left ≠ 0) = true := by simpa using q
      have d2 : decL left = left - 1 := if_pos q2
      rw [d1, d2]
      have q4 : (left == 0) = false := by simpa using q
      clear d1 d2
      go_enter Tryz.func76, Tryz.ntmps76
      go_wp2
      go_ret
      exact ⟨rfl, HS.out.setLeft (by decide)⟩
    · have d1 : decide (left ≠ 0) = true := by simpa using q
      have d2 : decL left = left := if_neg q2
      rw [d1, d2]
      have q4 : (left == 0) = false := by simpa using q
      clear d1 d2
      go_enter Tryz.func76, Tryz.ntmps76
      go_wp2
      go_ret
      exact ⟨rfl, Stp.refl HS.out⟩

set_option maxHeartbeats 1000000 in
theorem refStep_any {w : World} {B b : Nat} {fs : List Fl} {left : Int} {fv : Value} (h : St 107 111 w B b fs left fv) (h1 : -1 ≤ left) (h2 : left < 9223372036854775808) :
    Calls Tryz.prog 78 #[.pointer (some ⟨b, 0, none⟩)] w fun e w' => e = .returned (.bool (decide (left ≠ 0))) ∧ Stp 107 111 B b w w' fv fs (decL left) fv := by
  obtain ⟨c1, f1⟩ := cell_of (j := 1) (u := .int .i64 left) h.blk rfl
  have HS := hide h
  clear h
  by_cases q : left = 0
  · subst q
    go_enter Tryz.func78, Tryz.ntmps78
    go_wp2
    go_ret
    exact ⟨rfl, Stp.refl HS.out⟩
  · by_cases q2 : 0 < left
    · have d1 : decide (left ≠ 0) = true := by simpa using q
      have d2 : decL left = left - 1 := if_pos q2
      rw [d1, d2]
      have q4 : (left == 0) = false := by simpa using q
      clear d1 d2
      go_enter Tryz.func78, Tryz.ntmps78
      go_wp2
      go_ret
      exact ⟨rfl, HS.out.setLeft (by decide)⟩
    · have d1 : decide (left ≠ 0) = true := by simpa using q
      have d2 : decL left = left := if_neg q2
      rw [d1, d2]
      have q4 : (left == 0) = false := by simpa using q
      clear d1 d2
      go_enter Tryz.func78, Tryz.ntmps78
      go_wp2
      go_ret
      exact ⟨rfl, Stp.refl HS.out⟩
end Go.Proofs.YtkncboinfcnklaaGreatDoor
