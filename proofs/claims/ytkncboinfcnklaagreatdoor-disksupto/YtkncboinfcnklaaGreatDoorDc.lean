import Derived.Test.YtkncboinfcnklaaGreatDoorDb
import Derived.Test.YtkncboinfcnklaaGreatDoorL18
namespace Go.Proofs.YtkncboinfcnklaaGreatDoor
open Go.RowKit Go.Deep Go.Proofs.YtkncboinfcnklaaGreatDoor.Mth

/-! ### a disk, what others have of it, the document's -/
structure Plt where
  d : Nat
  h : Nat
  b : Nat
  r : Nat
  fs : List Fl
  gs : List Fl
  left : Int
  fv : Value
  gv : Value
def pltV (p : Plt) : Value := .agg #[.pointer (some ⟨p.d, 0, none⟩), .pointer (some ⟨p.h, 0, none⟩), .pointer (some ⟨p.r, 0, none⟩)]
def pltC (p : Plt) : List Value := [.pointer (some ⟨p.d, 0, none⟩), .pointer (some ⟨p.h, 0, none⟩), .pointer (some ⟨p.r, 0, none⟩)]
def ownP (p : Plt) (k : Nat) : Prop := k = p.d ∨ k = p.h ∨ ownD p.b p.fv k ∨ ownD p.r p.gv k

structure PI (n M : Nat) (w : World) (B : Nat) (p : Plt) : Prop where
  pd : Ptr 102 w p.d p.b
  ph : Ptr 104 w p.h p.b
  sa : St 100 109 w B p.b p.fs p.left p.fv
  sr : St 107 111 w B p.r p.gs p.left p.gv
  eq : Eqv n M p.fs p.gs
  l1 : -1 ≤ p.left
  l2 : p.left < 9223372036854775808

theorem PI.lt {n M : Nat} {w : World} {B : Nat} {p : Plt} (h : PI n M w B p) {k : Nat} (hk : ownP p k) : k < w.heap.size := by
  rcases hk with rfl | rfl | hk | hk
  · exact (Array.getElem?_eq_some_iff.1 h.pd).1
  · exact (Array.getElem?_eq_some_iff.1 h.ph).1
  · exact h.sa.ownLt hk
  · exact h.sr.ownLt hk
theorem PI.same {n M : Nat} {w w' : World} {B : Nat} {p : Plt} (h : PI n M w B p) (hs : ∀ k, ownP p k → w'.heap[k]? = w.heap[k]?) : PI n M w' B p :=
  ⟨(hs _ (Or.inl rfl)).trans h.pd, (hs _ (Or.inr (Or.inl rfl))).trans h.ph, h.sa.same (fun g hg => hs g (Or.inr (Or.inr (Or.inl hg)))), h.sr.same (fun g hg => hs g (Or.inr (Or.inr (Or.inr hg)))), h.eq, h.l1, h.l2⟩
theorem PI.below {n M : Nat} {w w' : World} {B : Nat} {p : Plt} (h : PI n M w B p) (hb : Below w.heap.size w w') : PI n M w' B p := h.same fun k hk => hb.block k (h.lt hk)
theorem PI.mono {n n' M : Nat} {w : World} {B : Nat} {p : Plt} (h : PI n M w B p) (hn : n ≤ n') : PI n' M w B p := ⟨h.pd, h.ph, h.sa, h.sr, h.eq.mono hn, h.l1, h.l2⟩

/-- The blocks of a disk have its types. -/
theorem St.typ {T e : TypeId} {w : World} {B b : Nat} {fs : List Fl} {left : Int} {fv : Value} (h : St T e w B b fs left fv) {k : Nat} (hk : ownD b fv k) : ∃ D t, w.heap[k]? = some (Obj.cells D t (0, 0)) ∧ (t = T ∨ t = e) := by
  rcases hk with rfl | hk
  · exact ⟨_, _, h.blk, Or.inl rfl⟩
  · obtain ⟨_, _, D, hD⟩ := own_block h.own hk
    exact ⟨_, _, hD, Or.inr rfl⟩
theorem typ_ne {w : World} {k : Nat} {D D' : Array Value} {t t' : TypeId} (h : w.heap[k]? = some (Obj.cells D t (0, 0))) (h' : w.heap[k]? = some (Obj.cells D' t' (0, 0))) : t = t' := by
  rw [h] at h'
  injection h' with h'
  injection h' with _ h' _
theorem PI.apart {n M : Nat} {w : World} {B : Nat} {p : Plt} (h : PI n M w B p) {k : Nat} (hk : ownD p.b p.fv k) : ¬ ownD p.r p.gv k := by
  intro hk'
  obtain ⟨D, t, h1, q⟩ := h.sa.typ hk
  obtain ⟨D', t', h2, q'⟩ := h.sr.typ hk'
  have := typ_ne h1 h2
  rcases q with rfl | rfl <;> rcases q' with rfl | rfl <;> exact absurd this (by decide)

theorem Ptr.keep2 {T T' e : TypeId} {w w' : World} {B b b' d : Nat} {fs : List Fl} {left : Int} {fv : Value} (hp : Ptr T w d b) (h : St T' e w B b' fs left fv) (ht : Tch (ownD b' fv) w w') (h1 : T ≠ T') (h2 : T ≠ e) : Ptr T w' d b := by
  refine (ht.block d (Array.getElem?_eq_some_iff.1 hp).1 (fun q => ?_)).trans hp
  obtain ⟨D, t, h3, q2⟩ := h.typ q
  have := typ_ne hp h3
  rcases q2 with q2 | q2
  · exact h1 (this.trans q2)
  · exact h2 (this.trans q2)

/-- What a call leaves of a plate. -/
structure PStp (n M B : Nat) (w w' : World) (p p' : Plt) : Prop where
  pi : PI n M w' B p'
  ed : p'.d = p.d
  eh : p'.h = p.h
  er : p'.r = p.r
  tch : Tch (fun k => ownD p.b p.fv k ∨ ownD p.r p.gv k) w w'
  new : ∀ k, ownP p' k → ownP p k ∨ w.heap.size ≤ k

/-- The two steps, one behind the other. -/
theorem PI.two {n n' M : Nat} {w w1 w2 w3 : World} {B : Nat} {p : Plt} {fs' gs' : List Fl} {l' : Int} {fv' gv' : Value} (h : PI n M w B p) (h1 : Stp 100 109 B p.b w w1 p.fv fs' l' fv') (hb : Below w1.heap.size w1 w2) (h2 : Stp 107 111 B p.r w2 w3 p.gv gs' l' gv') (he : Eqv n' M fs' gs') (hl1 : -1 ≤ l') (hl2 : l' < 9223372036854775808) :
    PStp n' M B w w3 p { p with fs := fs', gs := gs', left := l', fv := fv', gv := gv' } := by
  have hpd := (h.pd.keep h.sa h1.tch (by decide) (by decide)).below hb
  have hph := (h.ph.keep h.sa h1.tch (by decide) (by decide)).below hb
  have hsa := h1.st.below hb
  have hsr : St 107 111 w2 B p.r p.gs p.left p.gv := (h.sr.same (fun g hg => h1.tch.block g (h.sr.ownLt hg) (fun q => h.apart q hg))).below hb
  have hap : ∀ k, ownD p.b fv' k → ¬ ownD p.r p.gv k := by
    intro k hk hk'
    obtain ⟨D, t, h1, q⟩ := hsa.typ hk
    obtain ⟨D', t', h2, q'⟩ := hsr.typ hk'
    have := typ_ne h1 h2
    rcases q with rfl | rfl <;> rcases q' with rfl | rfl <;> exact absurd this (by decide)
  refine ⟨⟨hpd.keep2 hsr h2.tch (by decide) (by decide), hph.keep2 hsr h2.tch (by decide) (by decide), hsa.same (fun g hg => h2.tch.block g (hsa.ownLt hg) (hap g hg)), h2.st, he, hl1, hl2⟩, rfl, rfl, rfl, ?_, ?_⟩
  · exact ((h1.tch.mono (fun _ _ q => Or.inl q)).trans (tch_below (S := fun k => ownD p.b p.fv k ∨ ownD p.r p.gv k) hb) (fun _ _ q => q)).trans (h2.tch.mono (fun _ _ q => Or.inr q)) (fun _ _ q => q)
  · intro k hk
    rcases hk with hk | hk | hk | hk
    · exact Or.inl (Or.inl hk)
    · exact Or.inl (Or.inr (Or.inl hk))
    · rcases hk with hk | hk
      · exact Or.inl (Or.inr (Or.inr (Or.inl (Or.inl hk))))
      · rcases h1.new k hk with q | q
        · exact Or.inl (Or.inr (Or.inr (Or.inl (Or.inr q))))
        · exact Or.inr q
    · rcases hk with hk | hk
      · exact Or.inl (Or.inr (Or.inr (Or.inr (Or.inl hk))))
      · rcases h2.new k hk with q | q
        · exact Or.inl (Or.inr (Or.inr (Or.inr (Or.inr q))))
        · exact Or.inr (Nat.le_trans (Nat.le_trans h1.tch.size hb.size) q)
/-- What stands of the document's disk, behind the other's step. -/
theorem PI.mid {n M : Nat} {w w1 w2 : World} {B : Nat} {p : Plt} {fs' : List Fl} {l' : Int} {fv' : Value} (h : PI n M w B p) (h1 : Stp 100 109 B p.b w w1 p.fv fs' l' fv') (hb : Below w1.heap.size w1 w2) : St 107 111 w2 B p.r p.gs p.left p.gv :=
  (h.sr.same (fun g hg => h1.tch.block g (h.sr.ownLt hg) (fun q => h.apart q hg))).below hb
theorem PStp.below {n M B : Nat} {w w1 w2 : World} {p p' : Plt} (h : PStp n M B w w1 p p') (hb : Below w1.heap.size w1 w2) : PStp n M B w w2 p p' :=
  ⟨h.pi.below hb, h.ed, h.eh, h.er, h.tch.trans (tch_below (S := fun k => ownD p.b p.fv k ∨ ownD p.r p.gv k) hb) (fun _ _ q => q), h.new⟩
theorem PStp.pre {n M B : Nat} {w w1 w2 : World} {p p' : Plt} (hb : Below w.heap.size w w1) (h : PStp n M B w1 w2 p p') : PStp n M B w w2 p p' :=
  ⟨h.pi, h.ed, h.eh, h.er, (tch_below (S := fun k => ownD p.b p.fv k ∨ ownD p.r p.gv k) hb).trans h.tch (fun _ _ q => q), fun k hk => (h.new k hk).imp id (Nat.le_trans hb.size)⟩
theorem PStp.refl {n n' M B : Nat} {w w' : World} {p : Plt} (h : PI n M w B p) (hn : n ≤ n') (hb : Below w.heap.size w w') : PStp n' M B w w' p p :=
  ⟨(h.mono hn).below hb, rfl, rfl, rfl, tch_below hb, fun _ hk => Or.inl hk⟩

theorem decL_le {l : Int} (h1 : -1 ≤ l) (h2 : l < 9223372036854775808) : -1 ≤ decL l ∧ decL l < 9223372036854775808 := by
  unfold decL
  split <;> omega
theorem stopL_le {l n : Int} (h : n < 9223372036854775808) : -1 ≤ stopL l n ∧ stopL l n < 9223372036854775808 := by
  unfold stopL
  split
  · omega
  · split <;> omega

/-! ### the four steps, both disks -/
/-- What the second call must leave, whatever the first one's was. -/
def Sec (n M B : Nat) (p : Plt) (fs' : List Fl) (r : Bool) (e : Ending) (w2 w3 : World) : Prop := ∃ gs' gv', e = .returned (.bool r) ∧ Stp 107 111 B p.r w2 w3 p.gv gs' (decL p.left) gv' ∧ Eqv (n + 1) M fs' gs'
def Fst (B : Nat) (p : Plt) (w : World) (fs' : List Fl) (r : Bool) (e : Ending) (w1 : World) : Prop := ∃ fv', e = .returned (.bool r) ∧ Stp 100 109 B p.b w w1 p.fv fs' (decL p.left) fv'
theorem decL0 : decL 0 = 0 := rfl

theorem app_both {n M : Nat} {w : World} {B : Nat} {p : Plt} (h : PI n M w B p) (hB : B ≤ w.heap.size) (x t : ByteArray) (ht : t.size ≤ M) (hn : n ≤ 4194304) (hM : (n + 1) * M ≤ 70368744177664) :
    ∃ fs' r, Calls Tryz.prog 31 #[.pointer (some ⟨p.d, 0, none⟩), .string x, .string t] w (Fst B p w fs' r) ∧ ∀ w2, B ≤ w2.heap.size → St 107 111 w2 B p.r p.gs p.left p.gv → Calls Tryz.prog 32 #[.pointer (some ⟨p.r, 0, none⟩), .string x, .string t] w2 (Sec n M B p fs' r · w2 ·) := by
  obtain ⟨d, hh, b, r, fs, gs, left, fv, gv⟩ := p
  by_cases q : left = 0
  · subst q
    refine ⟨fs, false, (apiAppend_no h.sa h.pd x t).mono ?_, fun w2 _ hs => (refAppend_no hs x t).mono ?_⟩
    · rintro e w1 ⟨rfl, h1⟩
      exact ⟨fv, rfl, h1⟩
    · rintro e w3 ⟨rfl, h2⟩
      exact ⟨gs, gv, rfl, h2, h.eq.mono (Nat.le_succ _)⟩
  · obtain ⟨i, hi⟩ := at_ex fs x
    obtain ⟨j, hj⟩ := at_ex gs x
    have e := h.eq.fl hi hj
    have s := flAt_sz h.eq hi
    have e3 : (n + 1) * M = n * M + M := by rw [Nat.add_mul, Nat.one_mul]
    refine ⟨aApp fs x t i, true, (apiAppend_yes h.sa h.pd hB h.l1 h.l2 q (Nat.le_trans h.eq.len hn) x t i hi (by have := s.2; simp only at this ⊢; omega)).mono ?_, fun w2 hB2 hs => (refAppend_yes hs hB2 h.l1 h.l2 q (Nat.le_trans h.eq.lenR hn) x t j hj (by rw [e]; have := s.2; simp only at this ⊢; omega)).mono ?_⟩
    · rintro e w1 ⟨rfl, fv', h1⟩
      exact ⟨fv', rfl, h1⟩
    · rintro e w3 ⟨rfl, gv', h2⟩
      exact ⟨_, gv', rfl, h2, h.eq.app hi hj ht⟩

theorem sync_both {n M : Nat} {w : World} {B : Nat} {p : Plt} (h : PI n M w B p) (x : ByteArray) (hn : n ≤ 4194304) :
    ∃ fs' r, Calls Tryz.prog 33 #[.pointer (some ⟨p.d, 0, none⟩), .string x] w (Fst B p w fs' r) ∧ ∀ w2, B ≤ w2.heap.size → St 107 111 w2 B p.r p.gs p.left p.gv → Calls Tryz.prog 34 #[.pointer (some ⟨p.r, 0, none⟩), .string x] w2 (Sec n M B p fs' r · w2 ·) := by
  obtain ⟨d, hh, b, r, fs, gs, left, fv, gv⟩ := p
  by_cases q : left = 0
  · subst q
    refine ⟨fs, false, (apiSync_no h.sa h.pd x).mono ?_, fun w2 _ hs => (refSync_no hs x).mono ?_⟩
    · rintro e w1 ⟨rfl, h1⟩
      exact ⟨fv, rfl, h1⟩
    · rintro e w3 ⟨rfl, h2⟩
      exact ⟨gs, gv, rfl, h2, h.eq.mono (Nat.le_succ _)⟩
  · obtain ⟨i, hi⟩ := at_ex fs x
    obtain ⟨j, hj⟩ := at_ex gs x
    refine ⟨aSync fs i, true, (apiSync_yes h.sa h.pd h.l1 h.l2 q x i hi).mono ?_, fun w2 hB2 hs => (refSync_yes hs hB2 h.l1 h.l2 q (Nat.le_trans h.eq.lenR hn) x j hj).mono ?_⟩
    · rintro e w1 ⟨rfl, fv', h1⟩
      exact ⟨fv', rfl, h1⟩
    · rintro e w3 ⟨rfl, gv', h2⟩
      exact ⟨_, gv', rfl, h2, h.eq.sync hi hj⟩

theorem ren_both {n M : Nat} {w : World} {B : Nat} {p : Plt} (h : PI n M w B p) (hB : B ≤ w.heap.size) (x y : ByteArray) (hn : n ≤ 4194304) :
    ∃ fs' r, Calls Tryz.prog 35 #[.pointer (some ⟨p.d, 0, none⟩), .string x, .string y] w (Fst B p w fs' r) ∧ ∀ w2, B ≤ w2.heap.size → St 107 111 w2 B p.r p.gs p.left p.gv → Calls Tryz.prog 36 #[.pointer (some ⟨p.r, 0, none⟩), .string x, .string y] w2 (Sec n M B p fs' r · w2 ·) := by
  obtain ⟨d, hh, b, r, fs, gs, left, fv, gv⟩ := p
  by_cases q : left = 0
  · subst q
    refine ⟨fs, false, (apiRename_no h.sa h.pd x y).mono ?_, fun w2 _ hs => (refRename_no hs x y).mono ?_⟩
    · rintro e w1 ⟨rfl, h1⟩
      exact ⟨fv, rfl, h1⟩
    · rintro e w3 ⟨rfl, h2⟩
      exact ⟨gs, gv, rfl, h2, h.eq.mono (Nat.le_succ _)⟩
  · obtain ⟨i, hi⟩ := at_ex fs x
    obtain ⟨j, hj⟩ := at_ex gs x
    refine ⟨aRen fs x y i, true, ?_, fun w2 hB2 hs => (refRename_yes hs hB2 h.l1 h.l2 q (Nat.le_trans h.eq.lenR hn) x y j hj).mono ?_⟩
    · by_cases q2 : i < 0 ∨ x = y
      · refine (apiRename_same h.sa h.pd h.l1 h.l2 q x y i hi q2).mono ?_
        rintro e w1 ⟨rfl, h1⟩
        refine ⟨fv, rfl, ?_⟩
        unfold aRen
        rw [if_pos q2]
        exact h1
      · obtain ⟨k, rfl⟩ := Int.eq_ofNat_of_zero_le (Int.not_lt.1 fun c => q2 (Or.inl c))
        have hk := at_lt hi (by omega)
        rw [Int.toNat_natCast] at hk
        refine (apiRename_yes h.sa h.pd hB h.l1 h.l2 q (Nat.le_trans h.eq.len hn) x y k hi hk (fun c => q2 (Or.inr c))).mono ?_
        rintro e w1 ⟨rfl, fv', h1⟩
        refine ⟨fv', rfl, ?_⟩
        unfold aRen
        rw [if_neg q2, Int.toNat_natCast]
        exact h1
    · rintro e w3 ⟨rfl, gv', h2⟩
      exact ⟨_, gv', rfl, h2, h.eq.ren hi hj⟩

theorem rem_both {n M : Nat} {w : World} {B : Nat} {p : Plt} (h : PI n M w B p) (hB : B ≤ w.heap.size) (x : ByteArray) (hn : n ≤ 4194304) :
    ∃ fs' r, Calls Tryz.prog 37 #[.pointer (some ⟨p.d, 0, none⟩), .string x] w (Fst B p w fs' r) ∧ ∀ w2, B ≤ w2.heap.size → St 107 111 w2 B p.r p.gs p.left p.gv → Calls Tryz.prog 38 #[.pointer (some ⟨p.r, 0, none⟩), .string x] w2 (Sec n M B p fs' r · w2 ·) := by
  obtain ⟨d, hh, b, r, fs, gs, left, fv, gv⟩ := p
  by_cases q : left = 0
  · subst q
    refine ⟨fs, false, (apiRemove_no h.sa h.pd x).mono ?_, fun w2 _ hs => (refRemove_no hs x).mono ?_⟩
    · rintro e w1 ⟨rfl, h1⟩
      exact ⟨fv, rfl, h1⟩
    · rintro e w3 ⟨rfl, h2⟩
      exact ⟨gs, gv, rfl, h2, h.eq.mono (Nat.le_succ _)⟩
  · refine ⟨wo x fs, true, (apiRemove_yes h.sa h.pd hB h.l1 h.l2 q (Nat.le_trans h.eq.len hn) x).mono ?_, fun w2 hB2 hs => (refRemove_yes hs hB2 h.l1 h.l2 q (Nat.le_trans h.eq.lenR hn) x).mono ?_⟩
    · rintro e w1 ⟨rfl, fv', h1⟩
      exact ⟨fv', rfl, h1⟩
    · rintro e w3 ⟨rfl, gv', h2⟩
      exact ⟨_, gv', rfl, h2, (h.eq.wo x).mono (Nat.le_succ _)⟩
end Go.Proofs.YtkncboinfcnklaaGreatDoor

namespace Go.Proofs.YtkncboinfcnklaaGreatDoor
open Go.RowKit Go.Deep Go.Proofs.YtkncboinfcnklaaGreatDoor.Mth

/-! ### acts that are read -/
structure Ac where
  k : Int
  on : Int
  N : Int
  S : ByteArray
  T : ByteArray
def ac0 : Ac := ⟨0, 0, 0, ⟨#[]⟩, ⟨#[]⟩⟩
def acV (o : Ac) : Value := .agg #[.int .i64 o.k, .int .i64 o.on, .int .i64 o.N, .string o.S, .string o.T]
/-- Acts that may be: numbers of the machine, texts that are not too long. -/
def OkA (o : Ac) : Prop := -9223372036854775808 ≤ o.on ∧ o.on < 9223372036854775808 ∧ -9223372036854775808 ≤ o.N ∧ o.N < 9223372036854775808 ∧ o.T.size ≤ 1048576

def RdA (w : World) (v : Value) (l : List Ac) : Prop :=
  ∃ (a : Option Addr) (c : Nat), v = .slice a l.length c ∧ l.length ≤ c ∧ c ≤ maxLen ∧ (l = [] ∨ ∃ b o, a = some ⟨b, o, none⟩ ∧ ∀ j, j < l.length → w.cell? ⟨b, o + j * 5, none⟩ = some (.int .i64 (l.getD j ac0).k) ∧ w.cell? ⟨b, o + j * 5 + 1, none⟩ = some (.int .i64 (l.getD j ac0).on) ∧ w.cell? ⟨b, o + j * 5 + 2, none⟩ = some (.int .i64 (l.getD j ac0).N) ∧ w.cell? ⟨b, o + j * 5 + 3, none⟩ = some (.string (l.getD j ac0).S) ∧ w.cell? ⟨b, o + j * 5 + 4, none⟩ = some (.string (l.getD j ac0).T))
theorem RdA.below {w w' : World} {v : Value} {l : List Ac} (h : RdA w v l) (hb : Below w.heap.size w w') : RdA w' v l := by
  obtain ⟨a, c, rfl, hc, hm, h⟩ := h
  refine ⟨a, c, rfl, hc, hm, ?_⟩
  rcases h with h | ⟨b, o, rfl, h⟩
  · exact Or.inl h
  · refine Or.inr ⟨b, o, rfl, fun j hj => ?_⟩
    obtain ⟨h0, h1, h2, h3, h4⟩ := h j hj
    have hlt : b < w.heap.size := World.block_lt_of_cell? _ _ h0
    exact ⟨(hb.cell (p := ⟨b, _, none⟩) hlt).trans h0, (hb.cell (p := ⟨b, _, none⟩) hlt).trans h1, (hb.cell (p := ⟨b, _, none⟩) hlt).trans h2, (hb.cell (p := ⟨b, _, none⟩) hlt).trans h3, (hb.cell (p := ⟨b, _, none⟩) hlt).trans h4⟩
theorem rdA_len {w : World} {v : Value} {l : List Ac} (h : RdA w v l) : ∃ a c, v = .slice a l.length c ∧ l.length ≤ c ∧ c ≤ maxLen := by
  obtain ⟨a, c, rfl, hc, hm, _⟩ := h
  exact ⟨a, c, rfl, hc, hm⟩
theorem rdA_at {w : World} {a : Option Addr} {n c : Nat} {l : List Ac} (h : RdA w (.slice a n c) l) (j : Nat) (hj : j < l.length) : ∃ b o, a = some ⟨b, o, none⟩ ∧ b < w.heap.size ∧ w.cell? ⟨b, o + j * 5, none⟩ = some (.int .i64 (l.getD j ac0).k) ∧ w.cell? ⟨b, o + j * 5 + 1, none⟩ = some (.int .i64 (l.getD j ac0).on) ∧ w.cell? ⟨b, o + j * 5 + 2, none⟩ = some (.int .i64 (l.getD j ac0).N) ∧ w.cell? ⟨b, o + j * 5 + 3, none⟩ = some (.string (l.getD j ac0).S) ∧ w.cell? ⟨b, o + j * 5 + 4, none⟩ = some (.string (l.getD j ac0).T) := by
  obtain ⟨a', c', e, _, _, h⟩ := h
  injection e with e1 e2 e3
  rcases h with h | ⟨b, o, e4, h⟩
  · subst h; simp at hj
  · exact ⟨b, o, e1.trans e4, World.block_lt_of_cell? _ _ (h j hj).1, h j hj⟩

/-! ### the plates that there are -/
theorem pltC_len (l : List Plt) : (l.flatMap pltC).length = l.length * 3 := by
  induction l with
  | nil => rfl
  | cons f l ih => rw [List.flatMap_cons, List.length_append, ih]; simp [pltC]; omega
def plt0 : Plt := ⟨0, 0, 0, 0, [], [], 0, .slice none 0 0, .slice none 0 0⟩
theorem pltC_at : ∀ {l : List Plt} {j : Nat}, j < l.length → (l.flatMap pltC)[j * 3]? = some (.pointer (some ⟨(l.getD j plt0).d, 0, none⟩)) ∧ (l.flatMap pltC)[j * 3 + 1]? = some (.pointer (some ⟨(l.getD j plt0).h, 0, none⟩)) ∧ (l.flatMap pltC)[j * 3 + 2]? = some (.pointer (some ⟨(l.getD j plt0).r, 0, none⟩))
  | f :: l, 0, _ => by simp [pltC]
  | f :: l, j + 1, h => by
    obtain ⟨a, b, c⟩ := pltC_at (l := l) (j := j) (by simpa using h)
    rw [List.flatMap_cons]
    refine ⟨?_, ?_, ?_⟩
    · rw [List.getElem?_append_right (by simp [pltC]; omega)]; simpa [pltC, show (j + 1) * 3 - 3 = j * 3 by omega] using a
    · rw [List.getElem?_append_right (by simp [pltC]; omega)]; simpa [pltC, show (j + 1) * 3 + 1 - 3 = j * 3 + 1 by omega] using b
    · rw [List.getElem?_append_right (by simp [pltC]; omega)]; simpa [pltC, show (j + 1) * 3 + 2 - 3 = j * 3 + 2 by omega] using c
theorem pltC_set : ∀ {l : List Plt} {j : Nat} {p : Plt}, j < l.length → p.d = (l.getD j plt0).d → p.h = (l.getD j plt0).h → p.r = (l.getD j plt0).r → (l.set j p).flatMap pltC = l.flatMap pltC
  | f :: l, 0, p, _, h1, h2, h3 => by
    simp only [List.getD_cons_zero] at h1 h2 h3
    rw [List.set_cons_zero, List.flatMap_cons, List.flatMap_cons]
    simp only [pltC, h1, h2, h3]
  | f :: l, j + 1, p, h, h1, h2, h3 => by
    simp only [List.getD_cons_succ] at h1 h2 h3
    rw [List.set_cons_succ, List.flatMap_cons, List.flatMap_cons, pltC_set (by simpa using h) h1 h2 h3]

/-- All plates, each for itself; the list of them. B: what was there before is below. -/
structure PS (n M : Nat) (w : World) (B : Nat) (l : List Plt) (lv : Value) : Prop where
  own : w.ownsRow B 42 3 lv l.length (l.flatMap pltC)
  each : ∀ p ∈ l, PI n M w B p
  apart : l.Pairwise (fun p q => ∀ k, ownP p k → ¬ ownP q k)

theorem PI.typ {n M : Nat} {w : World} {B : Nat} {p : Plt} (h : PI n M w B p) {k : Nat} (hk : ownP p k) : ∃ D t, w.heap[k]? = some (Obj.cells D t (0, 0)) ∧ t ≠ 42 := by
  rcases hk with rfl | rfl | hk | hk
  · exact ⟨_, _, h.pd, by decide⟩
  · exact ⟨_, _, h.ph, by decide⟩
  · obtain ⟨D, t, h1, q⟩ := h.sa.typ hk
    refine ⟨D, t, h1, ?_⟩
    rcases q with rfl | rfl <;> decide
  · obtain ⟨D, t, h1, q⟩ := h.sr.typ hk
    refine ⟨D, t, h1, ?_⟩
    rcases q with rfl | rfl <;> decide
theorem PS.row_ne {n M : Nat} {w : World} {B : Nat} {l : List Plt} {lv : Value} (h : PS n M w B l lv) {p : Plt} (hp : p ∈ l) {k : Nat} (hk : ownP p k) : some k ≠ lv.ownBlock := by
  intro q
  obtain ⟨_, _, D, hD⟩ := own_block h.own q
  obtain ⟨D', t, h1, h2⟩ := (h.each p hp).typ hk
  exact h2 (typ_ne h1 hD)
theorem PS.below {n M : Nat} {w w' : World} {B : Nat} {l : List Plt} {lv : Value} (h : PS n M w B l lv) (hb : Below w.heap.size w w') : PS n M w' B l lv :=
  ⟨own_same h.own (fun g hg => hb.block g (own_block h.own hg).2.1), fun p hp => (h.each p hp).below hb, h.apart⟩
theorem PS.mono {n n' M : Nat} {w : World} {B : Nat} {l : List Plt} {lv : Value} (h : PS n M w B l lv) (hn : n ≤ n') : PS n' M w B l lv :=
  ⟨h.own, fun p hp => (h.each p hp).mono hn, h.apart⟩

theorem pair_set : ∀ {l : List Plt} {j : Nat} {p : Plt}, (hj : j < l.length) → l.Pairwise (fun p q => ∀ k, ownP p k → ¬ ownP q k) → (∀ i, i < l.length → i ≠ j → ∀ k, ownP p k → ¬ ownP (l.getD i plt0) k) → (l.set j p).Pairwise (fun p q => ∀ k, ownP p k → ¬ ownP q k)
  | f :: l, 0, p, _, h, hp => by
    rw [List.set_cons_zero, List.pairwise_cons]
    rw [List.pairwise_cons] at h
    refine ⟨fun q hq k hk => ?_, h.2⟩
    obtain ⟨i, hi, rfl⟩ := List.getElem_of_mem hq
    have := hp (i + 1) (by simpa using hi) (by omega) k hk
    rwa [List.getD_cons_succ, List.getD, List.getElem?_eq_getElem hi] at this
  | f :: l, j + 1, p, hj, h, hp => by
    rw [List.pairwise_cons] at h
    rw [List.set_cons_succ, List.pairwise_cons]
    refine ⟨fun q hq k hk hk' => ?_, pair_set (by simpa using hj) h.2 fun i hi hne k hk => ?_⟩
    · rcases List.mem_or_eq_of_mem_set hq with hq | rfl
      · exact h.1 q hq k hk hk'
      · exact hp 0 (by simp) (by omega) k hk' (by simpa using hk)
    · have := hp (i + 1) (by simpa using hi) (by omega) k hk
      rwa [List.getD_cons_succ] at this

theorem pair_ne {l : List Plt} (h : l.Pairwise (fun p q => ∀ k, ownP p k → ¬ ownP q k)) {i j : Nat} (hi : i < l.length) (hj : j < l.length) (hne : i ≠ j) {k : Nat} (hk : ownP (l.getD i plt0) k) : ¬ ownP (l.getD j plt0) k := by
  rw [List.pairwise_iff_getElem] at h
  rw [List.getD, List.getElem?_eq_getElem hi] at hk
  rw [List.getD, List.getElem?_eq_getElem hj]
  rcases Nat.lt_or_gt_of_ne hne with q | q
  · exact h i j hi hj q k hk
  · exact fun c => h j i hj hi q k c hk
theorem plt_mem {l : List Plt} {j : Nat} (h : j < l.length) : l.getD j plt0 ∈ l := by
  rw [List.getD, List.getElem?_eq_getElem h]
  exact List.getElem_mem _

/-- A plate has done a step: the others stand. -/
theorem PS.step {n n' M : Nat} {w w' : World} {B : Nat} {l : List Plt} {lv : Value} (h : PS n M w B l lv) (hn : n ≤ n') {j : Nat} (hj : j < l.length) {p' : Plt} (hs : PStp n' M B w w' (l.getD j plt0) p') : PS n' M w' B (l.set j p') lv := by
  have hm := plt_mem hj
  have sub : ∀ k, ownD (l.getD j plt0).b (l.getD j plt0).fv k ∨ ownD (l.getD j plt0).r (l.getD j plt0).gv k → ownP (l.getD j plt0) k := fun k q => q.elim (fun q => Or.inr (Or.inr (Or.inl q))) (fun q => Or.inr (Or.inr (Or.inr q)))
  have oth : ∀ i, i < l.length → i ≠ j → ∀ k, ownP (l.getD i plt0) k → w'.heap[k]? = w.heap[k]? := fun i hi hne k hk =>
    hs.tch.block k ((h.each _ (plt_mem hi)).lt hk) (fun q => pair_ne h.apart hi hj hne hk (sub k q))
  refine ⟨?_, ?_, pair_set hj h.apart ?_⟩
  · rw [List.length_set, pltC_set hj hs.ed hs.eh hs.er]
    exact own_same h.own (fun g hg => hs.tch.block g (own_block h.own hg).2.1 (fun q => h.row_ne hm (sub g q) hg))
  · intro p hp
    obtain ⟨i, hi, rfl⟩ := List.getElem_of_mem hp
    rw [List.length_set] at hi
    rw [List.getElem_set]
    split
    · exact hs.pi
    · have hne : i ≠ j := by omega
      have e : l[i] = l.getD i plt0 := by rw [List.getD, List.getElem?_eq_getElem hi]; rfl
      rw [e]
      exact ((h.each _ (plt_mem hi)).mono hn).same (fun k hk => oth i hi hne k hk)
  · intro i hi hne k hk hk'
    rcases hs.new k hk with q | q
    · exact pair_ne h.apart hi hj hne hk' q
    · have := (h.each _ (plt_mem hi)).lt hk'
      omega
/-- One plate more. -/
theorem PS.more {n M : Nat} {w w2 : World} {B : Nat} {l : List Plt} {lv v2 : Value} {p : Plt} {N : Nat} (h : PS n M w B l lv) (hp : PI n M w B p) (hN : ∀ q ∈ l, ∀ k, ownP q k → k < N) (hg : ∀ k, ownP p k → N ≤ k) (h2 : w2.ownsRow B 42 3 v2 (l.length + 1) (l.flatMap pltC ++ pltC p)) (hw : w.grownBy w2 lv.ownBlock) : PS n M w2 B (l ++ [p]) v2 := by
  refine ⟨by rw [List.length_append, List.flatMap_append]; simpa using h2, fun q hq => ?_, ?_⟩
  · rcases List.mem_append.1 hq with hq | hq
    · exact (h.each q hq).same fun k hk => hw.block k ((h.each q hq).lt hk) (h.row_ne hq hk)
    · simp only [List.mem_singleton] at hq
      subst hq
      refine hp.same fun k hk => hw.block k (hp.lt hk) (fun c => ?_)
      obtain ⟨_, _, D, hD⟩ := own_block h.own c
      obtain ⟨D', t, h1, h2⟩ := hp.typ hk
      exact h2 (typ_ne h1 hD)
  · rw [List.pairwise_append]
    refine ⟨h.apart, by simp, fun q hq p' hp' k hk hk' => ?_⟩
    simp only [List.mem_singleton] at hp'
    subst hp'
    have := hN q hq k hk
    have := hg k hk'
    omega
end Go.Proofs.YtkncboinfcnklaaGreatDoor

namespace Go.Proofs.YtkncboinfcnklaaGreatDoor
open Go.RowKit Go.Deep Go.Proofs.YtkncboinfcnklaaGreatDoor.Mth

/-- The world in which acted begins: the plate and the act in boxes. -/
def boxed (w : World) (d h r : Nat) (k on N : Int) (S T : ByteArray) : World := (w.alloc (Obj.cells #[.pointer (some ⟨d, 0, none⟩), .pointer (some ⟨h, 0, none⟩), .pointer (some ⟨r, 0, none⟩)] 42)).alloc (Obj.cells #[.int .i64 k, .int .i64 on, .int .i64 N, .string S, .string T] 34)
theorem boxed_below (w : World) (d h r : Nat) (k on N : Int) (S T : ByteArray) : Below w.heap.size w (boxed w d h r k on N S T) := (below_alloc w _).trans ((below_alloc _ _).mono (below_alloc w _).size)
theorem boxed_p (w : World) (d h r : Nat) (k on N : Int) (S T : ByteArray) : (boxed w d h r k on N S T).heap[w.heap.size]? = some (Obj.cells #[.pointer (some ⟨d, 0, none⟩), .pointer (some ⟨h, 0, none⟩), .pointer (some ⟨r, 0, none⟩)] 42 (0, 0)) := old_blk _ (new_blk w _ _)
theorem boxed_a (w : World) (d h r : Nat) (k on N : Int) (S T : ByteArray) : (boxed w d h r k on N S T).heap[w.heap.size + 1]? = some (Obj.cells #[.int .i64 k, .int .i64 on, .int .i64 N, .string S, .string T] 34 (0, 0)) := by
  have hh := new_blk (w.alloc (Obj.cells #[.pointer (some ⟨d, 0, none⟩), .pointer (some ⟨h, 0, none⟩), .pointer (some ⟨r, 0, none⟩)] 42)) #[.int .i64 k, .int .i64 on, .int .i64 N, .string S, .string T] 34
  have e : (w.alloc (Obj.cells #[.pointer (some ⟨d, 0, none⟩), .pointer (some ⟨h, 0, none⟩), .pointer (some ⟨r, 0, none⟩)] 42)).heap.size = w.heap.size + 1 := by simp
  rw [e] at hh
  exact hh
theorem boxed_size (w : World) (d h r : Nat) (k on N : Int) (S T : ByteArray) : (boxed w d h r k on N S T).heap.size = w.heap.size + 2 := by simp [boxed]
/-- A box stands while a disk does a step. -/
theorem box_keep {T e : TypeId} {w wA w1 : World} {B b : Nat} {fs fs' : List Fl} {left l' : Int} {fv fv' : Value} {k : Nat} {o : Obj} (h : St T e w B b fs left fv) (h1 : Stp T e B b wA w1 fv fs' l' fv') (hk : w.heap.size ≤ k) (hb : wA.heap[k]? = some o) : w1.heap[k]? = some o :=
  (h1.tch.block k (Array.getElem?_eq_some_iff.1 hb).1 (fun q => by have := h.ownLt q; omega)).trans hb

set_option maxRecDepth 100000 in
set_option maxHeartbeats 2000000 in
theorem acted_append {n M : Nat} {w : World} {B : Nat} {p : Plt} (h : PI n M w B p) (hB : B ≤ w.heap.size) (on N : Int) (S T : ByteArray) (ht : T.size ≤ M) (hM : (n + 1) * M ≤ 70368744177664) (hn : n ≤ 4194304) :
    Calls Tryz.prog 18 #[pltV p, acV ⟨2, on, N, S, T⟩] w fun e w' => e = .returned (.bool true) ∧ ∃ p', PStp (n + 1) M B w w' p p' := by
  have HB0 := hide (boxed_below w p.d p.h p.r 2 on N S T)
  have HA := hide (h.below HB0.out)
  have HI := hide h
  obtain ⟨fs', rr, CA, CB⟩ := app_both HA.out (Nat.le_trans hB HB0.out.size) S T ht hn hM
  have CAH := hide CA
  have CBH := hide CB
  have HK1 := hide (boxed_p w p.d p.h p.r 2 on N S T)
  have HK2 := hide (boxed_a w p.d p.h p.r 2 on N S T)
  have hsA := boxed_size w p.d p.h p.r 2 on N S T
  clear h CA CB
  have HWA : Hid (boxed w p.d p.h p.r 2 on N S T = (w.alloc (Obj.cells #[.pointer (some ⟨p.d, 0, none⟩), .pointer (some ⟨p.h, 0, none⟩), .pointer (some ⟨p.r, 0, none⟩)] 42)).alloc (Obj.cells #[.int .i64 2, .int .i64 on, .int .i64 N, .string S, .string T] 34)) := rfl
  generalize boxed w p.d p.h p.r 2 on N S T = wA at *
  simp only [pltV, acV]
  go_enter Tryz.func18, Tryz.ntmps18
  go_wp2_with fail
  rw [← HWA.out]
  refine CAH.out.mono ?_
  rintro e w1 ⟨fv', rfl, h1⟩
  have HT1 := hide h1
  have HM := hide (HA.out.mid h1 (Below.refl _ _))
  have hs1 := h1.tch.size
  have HL1 := hide (box_keep HI.out.sa h1 (Nat.le_refl _) HK1.out)
  have HL2 := hide (box_keep HI.out.sa h1 (Nat.le_succ _) HK2.out)
  obtain ⟨x2, _⟩ := cell_of (j := 2) (u := .pointer (some ⟨p.r, 0, none⟩)) HL1.out rfl
  obtain ⟨y3, _⟩ := cell_of (j := 3) (u := .string S) HL2.out rfl
  obtain ⟨y4, _⟩ := cell_of (j := 4) (u := .string T) HL2.out rfl
  clear h1 CAH
  go_wp2_with fail
  refine (CBH.out w1 (by omega) HM.out).mono ?_
  rintro e w3 ⟨gs', gv', rfl, h2, he⟩
  have hd := decL_le HI.out.l1 HI.out.l2
  have HF := hide ((HA.out.two HT1.out (Below.refl _ _) h2 he hd.1 hd.2).pre HB0.out)
  clear h2 he hd CBH x2 y3 y4
  cases rr
  all_goals (
    go_wp2
    go_ret
    exact ⟨rfl, _, HF.out⟩)

set_option maxRecDepth 100000 in
set_option maxHeartbeats 2000000 in
theorem acted_sync {n M : Nat} {w : World} {B : Nat} {p : Plt} (h : PI n M w B p) (hB : B ≤ w.heap.size) (on N : Int) (S T : ByteArray) (hn : n ≤ 4194304) :
    Calls Tryz.prog 18 #[pltV p, acV ⟨3, on, N, S, T⟩] w fun e w' => e = .returned (.bool true) ∧ ∃ p', PStp (n + 1) M B w w' p p' := by
  have HB0 := hide (boxed_below w p.d p.h p.r 3 on N S T)
  have HA := hide (h.below HB0.out)
  have HI := hide h
  obtain ⟨fs', rr, CA, CB⟩ := sync_both HA.out S hn
  have CAH := hide CA
  have CBH := hide CB
  have HK1 := hide (boxed_p w p.d p.h p.r 3 on N S T)
  have HK2 := hide (boxed_a w p.d p.h p.r 3 on N S T)
  have hsA := boxed_size w p.d p.h p.r 3 on N S T
  clear h CA CB
  have HWA : Hid (boxed w p.d p.h p.r 3 on N S T = (w.alloc (Obj.cells #[.pointer (some ⟨p.d, 0, none⟩), .pointer (some ⟨p.h, 0, none⟩), .pointer (some ⟨p.r, 0, none⟩)] 42)).alloc (Obj.cells #[.int .i64 3, .int .i64 on, .int .i64 N, .string S, .string T] 34)) := rfl
  generalize boxed w p.d p.h p.r 3 on N S T = wA at *
  simp only [pltV, acV]
  go_enter Tryz.func18, Tryz.ntmps18
  go_wp2_with fail
  rw [← HWA.out]
  refine CAH.out.mono ?_
  rintro e w1 ⟨fv', rfl, h1⟩
  have HT1 := hide h1
  have HM := hide (HA.out.mid h1 (Below.refl _ _))
  have hs1 := h1.tch.size
  have HL1 := hide (box_keep HI.out.sa h1 (Nat.le_refl _) HK1.out)
  have HL2 := hide (box_keep HI.out.sa h1 (Nat.le_succ _) HK2.out)
  obtain ⟨x2, _⟩ := cell_of (j := 2) (u := .pointer (some ⟨p.r, 0, none⟩)) HL1.out rfl
  obtain ⟨y3, _⟩ := cell_of (j := 3) (u := .string S) HL2.out rfl
  obtain ⟨y4, _⟩ := cell_of (j := 4) (u := .string T) HL2.out rfl
  clear h1 CAH
  go_wp2_with fail
  refine (CBH.out w1 (by omega) HM.out).mono ?_
  rintro e w3 ⟨gs', gv', rfl, h2, he⟩
  have hd := decL_le HI.out.l1 HI.out.l2
  have HF := hide ((HA.out.two HT1.out (Below.refl _ _) h2 he hd.1 hd.2).pre HB0.out)
  clear h2 he hd CBH x2 y3 y4
  cases rr
  all_goals (
    go_wp2
    go_ret
    exact ⟨rfl, _, HF.out⟩)

set_option maxRecDepth 100000 in
set_option maxHeartbeats 2000000 in
theorem acted_rename {n M : Nat} {w : World} {B : Nat} {p : Plt} (h : PI n M w B p) (hB : B ≤ w.heap.size) (on N : Int) (S T : ByteArray) (hn : n ≤ 4194304) :
    Calls Tryz.prog 18 #[pltV p, acV ⟨4, on, N, S, T⟩] w fun e w' => e = .returned (.bool true) ∧ ∃ p', PStp (n + 1) M B w w' p p' := by
  have HB0 := hide (boxed_below w p.d p.h p.r 4 on N S T)
  have HA := hide (h.below HB0.out)
  have HI := hide h
  obtain ⟨fs', rr, CA, CB⟩ := ren_both HA.out (Nat.le_trans hB HB0.out.size) S T hn
  have CAH := hide CA
  have CBH := hide CB
  have HK1 := hide (boxed_p w p.d p.h p.r 4 on N S T)
  have HK2 := hide (boxed_a w p.d p.h p.r 4 on N S T)
  have hsA := boxed_size w p.d p.h p.r 4 on N S T
  clear h CA CB
  have HWA : Hid (boxed w p.d p.h p.r 4 on N S T = (w.alloc (Obj.cells #[.pointer (some ⟨p.d, 0, none⟩), .pointer (some ⟨p.h, 0, none⟩), .pointer (some ⟨p.r, 0, none⟩)] 42)).alloc (Obj.cells #[.int .i64 4, .int .i64 on, .int .i64 N, .string S, .string T] 34)) := rfl
  generalize boxed w p.d p.h p.r 4 on N S T = wA at *
  simp only [pltV, acV]
  go_enter Tryz.func18, Tryz.ntmps18
  go_wp2_with fail
  rw [← HWA.out]
  refine CAH.out.mono ?_
  rintro e w1 ⟨fv', rfl, h1⟩
  have HT1 := hide h1
  have HM := hide (HA.out.mid h1 (Below.refl _ _))
  have hs1 := h1.tch.size
  have HL1 := hide (box_keep HI.out.sa h1 (Nat.le_refl _) HK1.out)
  have HL2 := hide (box_keep HI.out.sa h1 (Nat.le_succ _) HK2.out)
  obtain ⟨x2, _⟩ := cell_of (j := 2) (u := .pointer (some ⟨p.r, 0, none⟩)) HL1.out rfl
  obtain ⟨y3, _⟩ := cell_of (j := 3) (u := .string S) HL2.out rfl
  obtain ⟨y4, _⟩ := cell_of (j := 4) (u := .string T) HL2.out rfl
  clear h1 CAH
  go_wp2_with fail
  refine (CBH.out w1 (by omega) HM.out).mono ?_
  rintro e w3 ⟨gs', gv', rfl, h2, he⟩
  have hd := decL_le HI.out.l1 HI.out.l2
  have HF := hide ((HA.out.two HT1.out (Below.refl _ _) h2 he hd.1 hd.2).pre HB0.out)
  clear h2 he hd CBH x2 y3 y4
  cases rr
  all_goals (
    go_wp2
    go_ret
    exact ⟨rfl, _, HF.out⟩)

set_option maxRecDepth 100000 in
set_option maxHeartbeats 2000000 in
theorem acted_remove {n M : Nat} {w : World} {B : Nat} {p : Plt} (h : PI n M w B p) (hB : B ≤ w.heap.size) (on N : Int) (S T : ByteArray) (hn : n ≤ 4194304) :
    Calls Tryz.prog 18 #[pltV p, acV ⟨5, on, N, S, T⟩] w fun e w' => e = .returned (.bool true) ∧ ∃ p', PStp (n + 1) M B w w' p p' := by
  have HB0 := hide (boxed_below w p.d p.h p.r 5 on N S T)
  have HA := hide (h.below HB0.out)
  have HI := hide h
  obtain ⟨fs', rr, CA, CB⟩ := rem_both HA.out (Nat.le_trans hB HB0.out.size) S hn
  have CAH := hide CA
  have CBH := hide CB
  have HK1 := hide (boxed_p w p.d p.h p.r 5 on N S T)
  have HK2 := hide (boxed_a w p.d p.h p.r 5 on N S T)
  have hsA := boxed_size w p.d p.h p.r 5 on N S T
  clear h CA CB
  have HWA : Hid (boxed w p.d p.h p.r 5 on N S T = (w.alloc (Obj.cells #[.pointer (some ⟨p.d, 0, none⟩), .pointer (some ⟨p.h, 0, none⟩), .pointer (some ⟨p.r, 0, none⟩)] 42)).alloc (Obj.cells #[.int .i64 5, .int .i64 on, .int .i64 N, .string S, .string T] 34)) := rfl
  generalize boxed w p.d p.h p.r 5 on N S T = wA at *
  simp only [pltV, acV]
  go_enter Tryz.func18, Tryz.ntmps18
  go_wp2_with fail
  rw [← HWA.out]
  refine CAH.out.mono ?_
  rintro e w1 ⟨fv', rfl, h1⟩
  have HT1 := hide h1
  have HM := hide (HA.out.mid h1 (Below.refl _ _))
  have hs1 := h1.tch.size
  have HL1 := hide (box_keep HI.out.sa h1 (Nat.le_refl _) HK1.out)
  have HL2 := hide (box_keep HI.out.sa h1 (Nat.le_succ _) HK2.out)
  obtain ⟨x2, _⟩ := cell_of (j := 2) (u := .pointer (some ⟨p.r, 0, none⟩)) HL1.out rfl
  obtain ⟨y3, _⟩ := cell_of (j := 3) (u := .string S) HL2.out rfl
  obtain ⟨y4, _⟩ := cell_of (j := 4) (u := .string T) HL2.out rfl
  clear h1 CAH
  go_wp2_with fail
  refine (CBH.out w1 (by omega) HM.out).mono ?_
  rintro e w3 ⟨gs', gv', rfl, h2, he⟩
  have hd := decL_le HI.out.l1 HI.out.l2
  have HF := hide ((HA.out.two HT1.out (Below.refl _ _) h2 he hd.1 hd.2).pre HB0.out)
  clear h2 he hd CBH x2 y3 y4
  cases rr
  all_goals (
    go_wp2
    go_ret
    exact ⟨rfl, _, HF.out⟩)
end Go.Proofs.YtkncboinfcnklaaGreatDoor

namespace Go.Proofs.YtkncboinfcnklaaGreatDoor
open Go.RowKit Go.Deep Go.Proofs.YtkncboinfcnklaaGreatDoor.Mth

set_option maxRecDepth 100000 in
set_option maxHeartbeats 2000000 in
theorem acted_look {n M : Nat} {w : World} {B : Nat} {p : Plt} (h : PI n M w B p) (on N : Int) (S T : ByteArray) :
    Calls Tryz.prog 18 #[pltV p, acV ⟨6, on, N, S, T⟩] w fun e w' => e = .returned (.bool true) ∧ ∃ p', PStp (n + 1) M B w w' p p' := by
  have HB0 := hide (boxed_below w p.d p.h p.r 6 on N S T)
  have HA := hide (h.below HB0.out)
  have HK1 := hide (boxed_p w p.d p.h p.r 6 on N S T)
  have HK2 := hide (boxed_a w p.d p.h p.r 6 on N S T)
  have hsA := boxed_size w p.d p.h p.r 6 on N S T
  have C1 := hide (read_any HA.out.sa HA.out.pd S)
  have C2 := hide (has_any HA.out.sa HA.out.pd S)
  have C3 := hide (stopped_any HA.out.sa HA.out.pd)
  have C4 := hide (file_any HA.out.sr S)
  have HI := hide h
  clear h
  have HWA : Hid (boxed w p.d p.h p.r 6 on N S T = (w.alloc (Obj.cells #[.pointer (some ⟨p.d, 0, none⟩), .pointer (some ⟨p.h, 0, none⟩), .pointer (some ⟨p.r, 0, none⟩)] 42)).alloc (Obj.cells #[.int .i64 6, .int .i64 on, .int .i64 N, .string S, .string T] 34)) := rfl
  generalize boxed w p.d p.h p.r 6 on N S T = wA at *
  simp only [pltV, acV]
  go_enter Tryz.func18, Tryz.ntmps18
  go_wp2_with fail
  rw [← HWA.out]
  obtain ⟨x0, _⟩ := cell_of (j := 0) (u := .pointer (some ⟨p.d, 0, none⟩)) HK1.out rfl
  obtain ⟨x2, _⟩ := cell_of (j := 2) (u := .pointer (some ⟨p.r, 0, none⟩)) HK1.out rfl
  obtain ⟨y3, _⟩ := cell_of (j := 3) (u := .string S) HK2.out rfl
  refine C1.out.mono ?_
  rintro e w1 ⟨r, hr, rfl, rfl⟩
  have HR := hide hr
  generalize hX : (if r < 0 then (⟨#[]⟩ : ByteArray) else (p.fs.getD r.toNat fl0).data) = X
  have HX := hide hX
  clear hX hr
  go_wp2_with fail
  refine C2.out.mono ?_
  rintro e w2 ⟨r2, hr2, rfl, rfl⟩
  obtain rfl := at_one HR.out hr2
  generalize hY : decide (0 ≤ r) = is0
  have HY := hide hY
  clear hY hr2
  go_wp2_with fail
  refine C3.out.mono ?_
  rintro e w3 ⟨rfl, rfl⟩
  generalize hZ : (p.left == 0) = lf0
  have HZ := hide hZ
  clear hZ
  go_wp2_with fail
  refine C4.out.mono ?_
  rintro e w4 ⟨r', hr', rfl, hb4⟩
  have en := HA.out.eq.neg HR.out hr'
  have ef := HA.out.eq.fl HR.out hr'
  have ed : X = (flAt p.gs r').data := by
    rw [ef, ← HX.out]
    unfold flAt
    split <;> rfl
  have ei : is0 = decide (0 ≤ r') := by
    rw [← HY.out, decide_eq_decide]
    omega
  rw [ed, ei]
  generalize decide (0 ≤ r') = is at *
  generalize flAt p.gs r' = f at *
  obtain ⟨nm, dt, sf⟩ := f
  simp only
  obtain ⟨x2', _⟩ := cell_of (j := 2) (u := .pointer (some ⟨p.r, 0, none⟩)) ((hb4.block _ (by omega)).trans HK1.out) rfl
  obtain ⟨z1, _⟩ := cell_of (j := 1) (u := .int .i64 p.left) ((HA.out.sr.below hb4).blk) rfl
  have x3' : (w4.alloc (Obj.cells #[.string nm, .string dt, .int .i64 (sf : Int)] 111)).cell? ⟨w.heap.size, 2, none⟩ = some (.pointer (some ⟨p.r, 0, none⟩)) := cellA x2'
  have z2 : (w4.alloc (Obj.cells #[.string nm, .string dt, .int .i64 (sf : Int)] 111)).cell? ⟨p.r, 1, none⟩ = some (.int .i64 p.left) := cellA z1
  have HF : Hid (PStp (n + 1) M B w4 w4 p p) := PStp.refl ((HI.out.below HB0.out).below hb4) (Nat.le_succ _) (Below.refl _ _)
  have HF2 : Hid (∀ o, PStp (n + 1) M B w (w4.alloc o) p p) := fun o => (HF.out.below (below_alloc w4 o)).pre (HB0.out.trans (hb4.mono HB0.out.size))
  clear hr' en ef ed ei hb4 C1 C2 C3 C4 x0 y3 x2 HX HY HR HI HA
  rw [← HZ.out]
  clear HZ
  generalize p.left = lf at *
  by_cases q : lf = 0
  · subst q
    cases is
    all_goals (
      go_wp2
      go_ret
      exact ⟨by simp, _, HF2.out _⟩)
  · have q4 : (lf == 0) = false := by simpa using q
    rw [q4]
    cases is
    all_goals (
      go_wp2
      go_ret
      exact ⟨by simp, _, HF2.out _⟩)

set_option maxRecDepth 100000 in
set_option maxHeartbeats 2000000 in
theorem acted_stop {n M : Nat} {w : World} {B : Nat} {p : Plt} (h : PI n M w B p) (on N : Int) (S T : ByteArray) (hN : N < 9223372036854775808) :
    Calls Tryz.prog 18 #[pltV p, acV ⟨7, on, N, S, T⟩] w fun e w' => e = .returned (.bool true) ∧ ∃ p', PStp (n + 1) M B w w' p p' := by
  have HB0 := hide (boxed_below w p.d p.h p.r 7 on N S T)
  have HA := hide (h.below HB0.out)
  have HK1 := hide (boxed_p w p.d p.h p.r 7 on N S T)
  have HK2 := hide (boxed_a w p.d p.h p.r 7 on N S T)
  have hsA := boxed_size w p.d p.h p.r 7 on N S T
  have C1 := hide (apiStop_any HA.out.sa HA.out.ph N)
  have HI := hide h
  clear h
  have HWA : Hid (boxed w p.d p.h p.r 7 on N S T = (w.alloc (Obj.cells #[.pointer (some ⟨p.d, 0, none⟩), .pointer (some ⟨p.h, 0, none⟩), .pointer (some ⟨p.r, 0, none⟩)] 42)).alloc (Obj.cells #[.int .i64 7, .int .i64 on, .int .i64 N, .string S, .string T] 34)) := rfl
  generalize boxed w p.d p.h p.r 7 on N S T = wA at *
  simp only [pltV, acV]
  go_enter Tryz.func18, Tryz.ntmps18
  go_wp2_with fail
  rw [← HWA.out]
  refine C1.out.mono ?_
  rintro e w1 ⟨rfl, h1⟩
  have HT1 := hide h1
  have HM := hide (HA.out.mid h1 (Below.refl _ _))
  have hs1 := h1.tch.size
  have HL1 := hide (box_keep HI.out.sa h1 (Nat.le_refl _) HK1.out)
  have HL2 := hide (box_keep HI.out.sa h1 (Nat.le_succ _) HK2.out)
  obtain ⟨x2, _⟩ := cell_of (j := 2) (u := .pointer (some ⟨p.r, 0, none⟩)) HL1.out rfl
  obtain ⟨y2, _⟩ := cell_of (j := 2) (u := .int .i64 N) HL2.out rfl
  clear h1 C1
  go_wp2_with fail
  refine (refStop_any HM.out N).mono ?_
  rintro e w3 ⟨rfl, h2⟩
  have hd := stopL_le (l := p.left) hN
  have HF := hide ((HA.out.two HT1.out (Below.refl _ _) h2 (HI.out.eq.mono (Nat.le_succ _)) hd.1 hd.2).pre HB0.out)
  clear h2 hd x2 y2
  go_wp2
  go_ret
  exact ⟨rfl, _, HF.out⟩

set_option maxRecDepth 100000 in
set_option maxHeartbeats 2000000 in
theorem acted_else {n M : Nat} {w : World} {B : Nat} {p : Plt} (h : PI n M w B p) (k on N : Int) (S T : ByteArray) (h2 : k ≠ 2) (h3 : k ≠ 3) (h4 : k ≠ 4) (h5 : k ≠ 5) (h6 : k ≠ 6) (h7 : k ≠ 7) :
    Calls Tryz.prog 18 #[pltV p, acV ⟨k, on, N, S, T⟩] w fun e w' => e = .returned (.bool true) ∧ ∃ p', PStp (n + 1) M B w w' p p' := by
  have HB0 := hide (boxed_below w p.d p.h p.r k on N S T)
  have HF : Hid (PStp (n + 1) M B w (boxed w p.d p.h p.r k on N S T) p p) := PStp.refl h (Nat.le_succ _) HB0.out
  have q2 : (k == 2) = false := by simpa using h2
  have q3 : (k == 3) = false := by simpa using h3
  have q4 : (k == 4) = false := by simpa using h4
  have q5 : (k == 5) = false := by simpa using h5
  have q6 : (k == 6) = false := by simpa using h6
  have q7 : (k == 7) = false := by simpa using h7
  clear h
  simp only [pltV, acV]
  go_enter Tryz.func18, Tryz.ntmps18
  go_wp2
  go_ret
  exact ⟨rfl, _, HF.out⟩

theorem acted_any {n : Nat} {w : World} {B : Nat} {p : Plt} (h : PI n 1048576 w B p) (hB : B ≤ w.heap.size) (o : Ac) (ho : OkA o) (hn : n ≤ 1048576) :
    Calls Tryz.prog 18 #[pltV p, acV o] w fun e w' => e = .returned (.bool true) ∧ ∃ p', PStp (n + 1) 1048576 B w w' p p' := by
  obtain ⟨k, on, N, S, T⟩ := o
  obtain ⟨_, _, _, hN, hT⟩ := ho
  simp only at hN hT
  by_cases h2 : k = 2
  · subst h2; exact acted_append h hB on N S T hT (by omega) (by omega)
  by_cases h3 : k = 3
  · subst h3; exact acted_sync h hB on N S T (by omega)
  by_cases h4 : k = 4
  · subst h4; exact acted_rename h hB on N S T (by omega)
  by_cases h5 : k = 5
  · subst h5; exact acted_remove h hB on N S T (by omega)
  by_cases h6 : k = 6
  · subst h6; exact acted_look h on N S T
  by_cases h7 : k = 7
  · subst h7; exact acted_stop h on N S T hN
  exact acted_else h k on N S T h2 h3 h4 h5 h6 h7
end Go.Proofs.YtkncboinfcnklaaGreatDoor

namespace Go.Proofs.YtkncboinfcnklaaGreatDoor
open Go.RowKit Go.Deep Go.Proofs.YtkncboinfcnklaaGreatDoor.Mth

theorem Tryz.info42 : (Tryz.prog.info? 42).map (fun i => (i.zero, i.size, i.bytes)) = some (some (.agg #[.pointer none, .pointer none, .pointer none]), 3, 24) := by kernel_rfl

theorem own_plt {w : World} {B : Nat} {e : TypeId} {g n c : Nat} {l : List Plt} (h : w.ownsRow B e 3 (.slice (some ⟨g, 0, none⟩) n c) n (l.flatMap pltC)) {k : Nat} (hn : l.length = n) (hk : k < n) : w.cell? ⟨g, k * 3, none⟩ = some (.pointer (some ⟨(l.getD k plt0).d, 0, none⟩)) ∧ w.cell? ⟨g, k * 3 + 1, none⟩ = some (.pointer (some ⟨(l.getD k plt0).h, 0, none⟩)) ∧ w.cell? ⟨g, k * 3 + 2, none⟩ = some (.pointer (some ⟨(l.getD k plt0).r, 0, none⟩)) := by
  obtain ⟨h0, h1, h2⟩ := pltC_at (l := l) (j := k) (by omega)
  have hc := h.cells (g := g) rfl
  have e : ∀ i, (⟨g, 0, none⟩ : Addr).add i = ⟨g, i, none⟩ := fun i => by unfold Addr.add; split <;> simp_all
  refine ⟨?_, ?_, ?_⟩
  · have := hc _ _ h0; rwa [e] at this
  · have := hc _ _ h1; rwa [e] at this
  · have := hc _ _ h2; rwa [e] at this

theorem St.base {T e : TypeId} {w : World} {B B' b : Nat} {fs : List Fl} {left : Int} {fv : Value} (h : St T e w B' b fs left fv) (hB : B ≤ B') : St T e w B b fs left fv := ⟨h.blk, own_base h.own hB, Nat.le_trans hB h.ge⟩
theorem PStp.base {n n' M B : Nat} {w0 w w' : World} {p p' : Plt} (h0 : Below B w0 w) (hB : B ≤ w.heap.size) (hp : PI n M w B p) (hs : PStp n' M B w w' p p') : Below B w0 w' := by
  refine ⟨hs.tch.os.trans h0.os, hs.tch.tape.trans h0.tape, hs.tch.output.trans h0.output, Nat.le_trans h0.size hs.tch.size, fun k hk => ?_⟩
  rw [hs.tch.block k (Nat.lt_of_lt_of_le hk hB) (fun q => ?_)]
  · exact h0.block k hk
  · rcases q with (q | q) | (q | q)
    · have := hp.sa.ge; omega
    · have := (own_block hp.sa.own q).1; omega
    · have := hp.sr.ge; omega
    · have := (own_block hp.sr.own q).1; omega
theorem plt_new {w : World} {B d h b r : Nat} {fs gs : List Fl} {fv gv : Value} {N : Nat} (hd : N ≤ d) (hh : N ≤ h) (ha : St 100 109 w N b fs (-1) fv) (hr : St 107 111 w N r gs (-1) gv) (hpd : Ptr 102 w d b) (hph : Ptr 104 w h b) (hB : B ≤ N) {n M : Nat} (he : Eqv n M fs gs) : PI n M w B ⟨d, h, b, r, fs, gs, -1, fv, gv⟩ ∧ ∀ k, ownP ⟨d, h, b, r, fs, gs, -1, fv, gv⟩ k → N ≤ k := by
  refine ⟨⟨hpd, hph, ha.base hB, hr.base hB, he, by simp, by simp⟩, fun k hk => ?_⟩
  rcases hk with hk | hk | (hk | hk) | (hk | hk)
  · simp only at hk; omega
  · simp only at hk; omega
  · have := ha.ge; simp only at hk; omega
  · exact (own_block ha.own hk).1
  · have := hr.ge; simp only at hk; omega
  · exact (own_block hr.own hk).1
/-- What an append to the list of plates leaves of what was there before. -/
theorem below_row {B : Nat} {w0 w w2 : World} {v : Value} {o : Obj} {e : TypeId} {sz n : Nat} {xs : List Value} (hb : Below B w0 w) (hB : B ≤ w.heap.size) (hown : w.ownsRow B e sz v n xs) (hg : (w.alloc o).grownBy w2 v.ownBlock) : Below B w0 w2 := by
  refine ⟨hg.os.trans hb.os, hg.tape.trans hb.tape, hg.output.trans hb.output, Nat.le_trans hb.size (Nat.le_trans (by simp) hg.size), fun k hk => ?_⟩
  by_cases q : k < w.heap.size
  · rw [hg.block k (by simp; omega) (fun c => by have := (own_block hown c).1; omega), _root_.Go.heap_alloc_old w o q]
    exact hb.block k hk
  · exact absurd hk (by omega)
theorem act_mem {l : List Ac} {j : Nat} (h : j < l.length) : l.getD j ac0 ∈ l := by
  rw [List.getD, List.getElem?_eq_getElem h]
  exact List.getElem_mem _

set_option maxRecDepth 100000 in
set_option maxHeartbeats 8000000 in
theorem disks_any (W0 : World) (sv : Value) (acs : List Ac) (hR : RdA W0 sv acs) (hOk : ∀ o ∈ acs, OkA o) (hn : acs.length ≤ 1048576) (hT : Tab W0) :
    Calls Tryz.prog 5 #[sv] W0 fun e w' => e = .returned (.bool true) ∧ Below W0.heap.size W0 w' := by
  obtain ⟨i0, hi0, hz0, hz1, hz2⟩ := info_parts Tryz.info42
  have HR := hide hR
  have HOK := hide hOk
  obtain ⟨sa, sc, rfl, hsc, hsm⟩ := rdA_len hR
  unfold maxLen at hsm
  have CL := hide (law_any W0 (.slice none 0 0) (.slice none 0 0) (.slice none 0 0) (.slice none 0 0) (.slice none 0 0) [] [] ⟨_, _, _, rfl⟩ ⟨_, _, _, rfl⟩ ⟨_, _, _, rfl⟩ ⟨none, 0, rfl, Nat.le_refl _, by unfold maxLen; omega, Or.inl rfl⟩ (fun _ h => by cases h) (Nat.zero_le _) ⟨none, 0, rfl, Nat.le_refl _, by unfold maxLen; omega, Or.inl rfl⟩ (fun _ h => by cases h) (Nat.zero_le _) hT)
  clear hR hOk hT
  generalize hon : acs.length = on at *
  have HON := hide hon
  clear hon
  go_enter Tryz.func5, Tryz.ntmps5
  go_wp2_with fail
  refine CL.out.mono ?_
  rintro e w1 ⟨rfl, hb1⟩
  have HB1 := hide hb1
  clear hb1 CL
  go_wp2_with fail
  go_loopw [3, 4, 5] (fun ok lv i wr => ∃ (k : Nat) (ps : List Plt), k ≤ on ∧ i = .int .i64 k ∧ ok = .bool true ∧ Below W0.heap.size W0 wr ∧ PS k 1048576 wr W0.heap.size ps lv ∧ ps.length ≤ k) (fun _ _ i _ => on - (intOf i).toNat)
  case atStart => exact ⟨0, [], Nat.zero_le _, rfl, rfl, HB1.out, ⟨World.ownsRow_nil _ _ _ _, (fun _ h => by cases h), List.Pairwise.nil⟩, Nat.zero_le _⟩
  case round =>
    obtain ⟨k, ps, hk, rfl, rfl, hb, hps, hpl⟩ := hrel
    have HB := hide hb
    have HPS := hide hps
    have hszw := hb.size
    obtain ⟨la, lc, rfl, hlc, hlm⟩ := own_slice hps.own
    unfold maxLen at hlm
    clear hb hps
    generalize hpn : ps.length = pn at *
    have HPN := hide hpn
    clear hpn
    by_cases hlt : k < on
    · obtain ⟨ab, ao, rfl, _, c0, c1, c2, c3, c4⟩ := rdA_at (HR.out.below HB.out) k (by rw [HON.out]; exact hlt)
      have hok := HOK.out _ (act_mem (l := acs) (j := k) (by rw [HON.out]; exact hlt))
      generalize acs.getD k ac0 = o at *
      have HOKO := hide hok
      have hOb : -9223372036854775808 ≤ o.on ∧ o.on < 9223372036854775808 ∧ -9223372036854775808 ≤ o.N ∧ o.N < 9223372036854775808 := ⟨hok.1, hok.2.1, hok.2.2.1, hok.2.2.2.1⟩
      obtain ⟨okd, oon, oN, oS, oT⟩ := o
      simp only at c0 c1 c2 c3 c4 hOb
      obtain ⟨hO1, hO2, hO3, hO4⟩ := hOb
      clear hok
      have HBX := hide (below_alloc wr (Obj.cells #[.int .i64 okd, .int .i64 oon, .int .i64 oN, .string oS, .string oT] 34))
      have HKO := hide (new_blk wr #[.int .i64 okd, .int .i64 oon, .int .i64 oN, .string oS, .string oT] 34)
      have hsx : (wr.alloc (Obj.cells #[.int .i64 okd, .int .i64 oon, .int .i64 oN, .string oS, .string oT] 34)).heap.size = wr.heap.size + 1 := by simp
      have HPX := hide (HPS.out.below HBX.out)
      have HB0X := hide (HB.out.trans (HBX.out.mono HB.out.size))
      by_cases k1 : okd = 1
      · subst k1
        go_wp2_with fail
        generalize wr.alloc (Obj.cells #[.int .i64 1, .int .i64 oon, .int .i64 oN, .string oS, .string oT] 34) = wx at *
        refine (apiNew_any wx wx.heap.size (Nat.le_refl _)).mono ?_
        rintro e w2 ⟨d', h', b', rfl, _, hd', hh', hbl, hst, hpd, hph⟩
        go_wp2_with fail
        refine (refNew_any w2 wx.heap.size hbl.size).mono ?_
        rintro e w3 ⟨r', rfl, hr', hbl3, hst3⟩
        have HN := hide (plt_new (B := W0.heap.size) (n := k) (M := 1048576) hd' hh' (hst.below hbl3) hst3 (hpd.below hbl3) (hph.below hbl3) HB0X.out.size (Eqv.nil _ _))
        have hb03 := hbl.trans (hbl3.mono hbl.size)
        have HP3 := hide (HPX.out.below hb03)
        have HBW := hide (HB0X.out.trans (hb03.mono HB0X.out.size))
        have hszB := HBW.out.size
        have hsz03 := hb03.size
        have HKA := hide ((hb03.block _ (by omega)).trans HKO.out)
        have HNE : Hid (some wr.heap.size ≠ (Value.slice la pn lc).ownBlock) := by
          intro q
          obtain ⟨_, _, D, hD⟩ := own_block HP3.out.own q
          exact absurd (typ_ne HKA.out hD) (by decide)
        clear hst hpd hph hst3 hbl hbl3 c0 c1 c2 c3 c4 hb03
        go_wp2_with (first | (at_builtin; refine wpList_append_own _ rfl _ _ 32 rfl W0.heap.size 42 i0 (.agg #[.pointer none, .pointer none, .pointer none]) 3 24 Tryz.underlying32 hi0 hz0 hz1 hz2 rfl (by decide) _ _ _ rfl (by have q := HP3.out.own.alloc (Obj.cells #[.pointer (some ⟨d', 0, none⟩), .pointer (some ⟨h', 0, none⟩), .pointer (some ⟨r', 0, none⟩)] 42); rw [HPN.out] at q; exact q) ⟨_, 0, none⟩ 1 1 [.pointer (some ⟨d', 0, none⟩), .pointer (some ⟨h', 0, none⟩), .pointer (some ⟨r', 0, none⟩)] rfl rfl (cells_new _ _ _ _ rfl) (by intro u hu; simp at hu; rcases hu with rfl | rfl | rfl <;> rfl) (by unfold maxLen; omega) (by omega) (by simp; omega) ?_; intro v4 w4 hown4 hgrow4 _; have HC4 := hide (And.intro hown4 hgrow4); obtain ⟨x1, _⟩ := cell_of (j := 0) (u := .int .i64 1) (beside hgrow4 HKA.out HNE.out) rfl; clear hown4 hgrow4))
        have HC5 := hide (((HP3.out.below (below_alloc w3 (Obj.cells #[.pointer (some ⟨d', 0, none⟩), .pointer (some ⟨h', 0, none⟩), .pointer (some ⟨r', 0, none⟩)] 42))).more (N := wx.heap.size) (HN.out.1.below (below_alloc w3 _)) (fun q hq j hj => (HPX.out.each q hq).lt hj) HN.out.2 (by rw [HPN.out]; exact HC4.out.1) HC4.out.2).mono (Nat.le_succ k))
        have HB4 := hide (below_row HBW.out hszB HP3.out.own HC4.out.2)
        clear HC4
        go_roundw
        case rel => exact ⟨k + 1, _, by omega, by go_num, rfl, HB4.out, HC5.out, by rw [List.length_append, HPN.out]; simp; omega⟩
        case measure => simp [intOf]; omega
      · have k1' : (okd == 1) = false := by simpa using k1
        clear k1
        by_cases hp0 : pn = 0
        · subst hp0
          go_wp2
          go_roundw
          case rel => exact ⟨k + 1, ps, by omega, by go_num, rfl, HB0X.out, HPX.out.mono (Nat.le_succ k), by rw [HPN.out]; omega⟩
          case measure => simp [intOf]; omega
        · have ho := HPX.out.own
          rw [HPN.out] at ho
          obtain ⟨g, rfl⟩ := own_some ho (by omega)
          have HOW := hide ho
          clear ho
          go_wp2_with fail
          clear c0 c1 c2 c3 c4
          generalize wr.alloc (Obj.cells #[.int .i64 okd, .int .i64 oon, .int .i64 oN, .string oS, .string oT] 34) = wx at *
          refine (pick_any oon pn wx hO1 hO2 (by omega) (by omega)).mono ?_
          rintro e w2 ⟨⟨r, hr0, hr1, rfl⟩, rfl⟩
          obtain ⟨j, rfl⟩ := Int.eq_ofNat_of_zero_le hr0
          have hj : j < pn := by omega
          obtain ⟨e0, e1, e2⟩ := own_plt HOW.out HPN.out hj
          have HJ : Hid (j < ps.length) := by rw [HPN.out]; exact hj
          have hij := HPX.out.each _ (plt_mem HJ.out)
          obtain ⟨p, hp⟩ : ∃ p, p = ps.getD j plt0 := ⟨_, rfl⟩
          rw [← hp] at e0 e1 e2 hij
          have HP := hide hp
          clear hp hr0 hr1
          have HBY := hide (below_alloc w2 (Obj.cells #[.pointer (some ⟨p.d, 0, none⟩), .pointer (some ⟨p.h, 0, none⟩), .pointer (some ⟨p.r, 0, none⟩)] 42))
          have HKP := hide (new_blk w2 #[.pointer (some ⟨p.d, 0, none⟩), .pointer (some ⟨p.h, 0, none⟩), .pointer (some ⟨p.r, 0, none⟩)] 42)
          have HKY := hide (old_blk (Obj.cells #[.pointer (some ⟨p.d, 0, none⟩), .pointer (some ⟨p.h, 0, none⟩), .pointer (some ⟨p.r, 0, none⟩)] 42) HKO.out)
          have HIY := hide (hij.below HBY.out)
          have HPY := hide (HPX.out.below HBY.out)
          have HB0Y := hide (HB0X.out.trans (HBY.out.mono HB0X.out.size))
          have hsy : (w2.alloc (Obj.cells #[.pointer (some ⟨p.d, 0, none⟩), .pointer (some ⟨p.h, 0, none⟩), .pointer (some ⟨p.r, 0, none⟩)] 42)).heap.size = w2.heap.size + 1 := by simp
          obtain ⟨y0, _⟩ := cell_of (j := 0) (u := .int .i64 okd) HKY.out rfl
          obtain ⟨y1, _⟩ := cell_of (j := 1) (u := .int .i64 oon) HKY.out rfl
          obtain ⟨y2, _⟩ := cell_of (j := 2) (u := .int .i64 oN) HKY.out rfl
          obtain ⟨y3, _⟩ := cell_of (j := 3) (u := .string oS) HKY.out rfl
          obtain ⟨y4, _⟩ := cell_of (j := 4) (u := .string oT) HKY.out rfl
          clear hij
          by_cases k8 : okd = 8
          · subst k8
            have hE := HIY.out.eq
            have CC := hide (apiCrash_any HIY.out.sa HIY.out.ph oN hO3 hO4 (by have := hE.len; omega) hE.sf (fun f hf => by have := hE.sz f hf; omega))
            clear hE
            go_wp2_with fail
            generalize w2.alloc (Obj.cells #[.pointer (some ⟨p.d, 0, none⟩), .pointer (some ⟨p.h, 0, none⟩), .pointer (some ⟨p.r, 0, none⟩)] 42) = wy at *
            refine CC.out.mono ?_
            rintro e w3 ⟨d', h', b', fv', rfl, hd', hh', hbl, hst, hpd, hph⟩
            obtain ⟨z2, _⟩ := cell_of (j := 2) (u := .pointer (some ⟨p.r, 0, none⟩)) ((hbl.block _ (by omega)).trans HKP.out) rfl
            rw [hsx] at z2
            obtain ⟨v2, _⟩ := cell_of (j := 2) (u := .int .i64 oN) ((hbl.block _ (by omega)).trans HKY.out) rfl
            have HBL := hide hbl
            have HST := hide hst
            have HPD := hide hpd
            have HPH := hide hph
            clear CC hst hpd hph hbl y0 y1 y2 y3 y4 e0 e1 e2
            go_wp2_with fail
            refine (refCrash_any (HIY.out.sr.below HBL.out) oN hO3 hO4 (by have := HIY.out.eq.lenR; omega) HIY.out.eq.sfR (fun f hf => by have := HIY.out.eq.szR f hf; omega)).mono ?_
            rintro e w4 ⟨r', gv', rfl, hbl4, hst4⟩
            have HN := hide (plt_new (B := W0.heap.size) (n := k) (M := 1048576) hd' hh' (HST.out.below hbl4) (hst4.base HBL.out.size) (HPD.out.below hbl4) (HPH.out.below hbl4) HB0Y.out.size (HIY.out.eq.crash oN))
            have hb04 := HBL.out.trans (hbl4.mono HBL.out.size)
            have HP4 := hide (HPY.out.below hb04)
            have HBW := hide (HB0Y.out.trans (hb04.mono HB0Y.out.size))
            have hszB := HBW.out.size
            clear hst4 hbl4 hb04 HST HPD HPH z2 v2
            go_wp2_with (first | (at_builtin; refine wpList_append_own _ rfl _ _ 32 rfl W0.heap.size 42 i0 (.agg #[.pointer none, .pointer none, .pointer none]) 3 24 Tryz.underlying32 hi0 hz0 hz1 hz2 rfl (by decide) _ _ _ rfl (by have q := HP4.out.own.alloc (Obj.cells #[.pointer (some ⟨d', 0, none⟩), .pointer (some ⟨h', 0, none⟩), .pointer (some ⟨r', 0, none⟩)] 42); rw [HPN.out] at q; exact q) ⟨_, 0, none⟩ 1 1 [.pointer (some ⟨d', 0, none⟩), .pointer (some ⟨h', 0, none⟩), .pointer (some ⟨r', 0, none⟩)] rfl rfl (cells_new _ _ _ _ rfl) (by intro u hu; simp at hu; rcases hu with rfl | rfl | rfl <;> rfl) (by unfold maxLen; omega) (by omega) (by simp; omega) ?_; intro v4 w5 hown4 hgrow4 _; have HC4 := hide (And.intro hown4 hgrow4); clear hown4 hgrow4))
            have HC5 := hide (((HP4.out.below (below_alloc w4 (Obj.cells #[.pointer (some ⟨d', 0, none⟩), .pointer (some ⟨h', 0, none⟩), .pointer (some ⟨r', 0, none⟩)] 42))).more (N := wy.heap.size) (HN.out.1.below (below_alloc w4 _)) (fun q hq j hj => (HPY.out.each q hq).lt hj) HN.out.2 (by rw [HPN.out]; exact HC4.out.1) HC4.out.2).mono (Nat.le_succ k))
            have HB4 := hide (below_row HBW.out hszB HP4.out.own HC4.out.2)
            clear HC4
            go_roundw
            case rel => exact ⟨k + 1, _, by omega, by go_num, rfl, HB4.out, HC5.out, by rw [List.length_append, HPN.out]; simp; omega⟩
            case measure => simp [intOf]; omega
          · have k8' : (okd == 8) = false := by simpa using k8
            have CA := hide (acted_any HIY.out (by omega) ⟨okd, oon, oN, oS, oT⟩ HOKO.out (by omega))
            simp only [pltV, acV] at CA
            clear k8
            go_wp2_with fail
            generalize w2.alloc (Obj.cells #[.pointer (some ⟨p.d, 0, none⟩), .pointer (some ⟨p.h, 0, none⟩), .pointer (some ⟨p.r, 0, none⟩)] 42) = wy at *
            refine CA.out.mono ?_
            rintro e w3 ⟨rfl, p', hs⟩
            have HB4 := hide (hs.base HB0Y.out HB0Y.out.size HIY.out)
            rw [HP.out] at hs
            have HC5 := hide (HPY.out.step (Nat.le_succ k) HJ.out hs)
            clear CA hs y0 y1 y2 y3 y4 e0 e1 e2
            go_wp2
            go_roundw
            case rel => exact ⟨k + 1, _, by omega, by go_num, rfl, HB4.out, HC5.out, by rw [List.length_set, HPN.out]; omega⟩
            case measure => simp [intOf]; omega
    · have hke : k = on := by omega
      subst hke
      go_wp2
      go_ret
      exact ⟨rfl, HB.out⟩
end Go.Proofs.YtkncboinfcnklaaGreatDoor
