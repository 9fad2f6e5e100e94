import Derived.Test.YtkncboinfcnklaaGreatDoorQ20
import Derived.Test.YtkncboinfcnklaaGreatDoorQ21
import Derived.Test.YtkncboinfcnklaaGreatDoorT16
import Derived.Test.YtkncboinfcnklaaGreatDoorQ26
import Derived.Test.YtkncboinfcnklaaGreatDoorQ28
import Derived.Test.YtkncboinfcnklaaGreatDoorJ1
import Derived.Test.YtkncboinfcnklaaGreatDoorQ19
import Derived.Test.YtkncboinfcnklaaGreatDoorQ12
import Derived.Deep.MidRow
namespace Go.Proofs.YtkncboinfcnklaaGreatDoor.Lw
open Go.RowKit Go.Deep Go.Shelf Go.Proofs.YtkncboinfcnklaaGreatDoor.Mth Go.Proofs.YtkncboinfcnklaaGreatDoor.Rl

/-! ### a host: a log of the program, what it may be by the document -/
structure Ho where
  hb : Nat
  lb : Nat
  d : Nat
  h : Nat
  mv : Value
  ρ : Nat → Nat
  B : Nat
  N : Nat
  G : Gh
  L : Lg
  all : List Ent
  ts : List Tl
  V : Rv
def hoC (x : Ho) : Array Value := #[ptrV x.lb, ptrV x.d, ptrV x.h, .int .i64 (x.L.memory : Int), .int .i64 (x.L.fan : Int), .int .i64 (x.L.back : Int), .int .i64 (x.L.wks.length : Int), .int .i64 (x.L.keep : Int), .int .i64 (x.L.batch : Int), x.mv]
structure HoAt (P : Lg → List Tl → Prop) (Z : Nat → Prop) (w : World) (M : Nat) (x : Ho) : Prop where
  log : LogAt w x.ρ x.B x.N x.lb x.G x.L
  inv : Inv x.L x.all
  left : x.G.left = -1
  db : x.G.db = x.d
  bud : x.G.dt.size ≤ 64 * M ∧ x.all.length ≤ M
  may : w.ownsRow 0 234 20 x.mv 1 (rfC x.V x.L).toList
  mz : ∀ g, some g = x.mv.ownBlock → Z g
  ref : RfV Z 0 w x.V x.L x.all x.ts
  rz : RfZ Z x.V x.L.wks.length
  tl : P x.L x.ts
theorem HoAt.same {P : Lg → List Tl → Prop} {Z Z' : Nat → Prop} {w w' : World} {M M' : Nat} {x : Ho} (h : HoAt P Z w M x) (hl : ∀ g, (x.ρ g ≠ 0 ∨ isN w g) → w'.heap[g]? = w.heap[g]?) (hz : ∀ g, Z g → w'.heap[g]? = w.heap[g]?) (hs : w.heap.size ≤ w'.heap.size) (hZ : ∀ g, Z g → Z' g) (hM : M ≤ M') : HoAt P Z' w' M' x :=
  ⟨h.log.same hl hs, h.inv, h.left, h.db, ⟨by have := h.bud.1; omega, by have := h.bud.2; omega⟩, own_same h.may (fun g hg => hz g (h.mz g hg)), fun g hg => hZ g (h.mz g hg), (h.ref.same h.rz hz).zmono hZ, h.rz.mono hZ, h.tl⟩

theorem RdM.same' {w w' : World} {e : TypeId} {sz : Nat} {v : Value} {n : Nat} {f : Nat → Value} (h : RdM w e sz v n f) (hs : ∀ g, some g = v.ownBlock → w'.heap[g]? = w.heap[g]?) : RdM w' e sz v n f := by
  obtain ⟨a, c, rfl, h1, h2, h3⟩ := h
  refine ⟨a, c, rfl, h1, h2, h3.imp id ?_⟩
  rintro ⟨g, C, rfl, h4, h5⟩
  have e := hs g rfl
  exact ⟨g, C, rfl, e.trans h4, fun j hj => by rw [World.cell?_of_block (w' := w') (a := ⟨g, j, none⟩) e]; exact h5 j hj⟩
/-- Lists that came out, in blocks of Z. -/
def Bok (Z : Nat → Prop) (w : World) (B : Nat) (T e : TypeId) (sz : Nat) (F : Nat → Nat → Value) (v : Value) (N : Nat) : Prop :=
  ∃ q : Nat → Qd, w.ownsRow B T 5 v N ((List.range N).flatMap (qc q)) ∧ ∀ i, i < N → ∀ u, (u = (q i).l ∨ u = (q i).a ∨ u = (q i).b ∨ u = (q i).c) → (∃ n, n ≤ 4194304 ∧ RdM w e sz u n (F i)) ∧ ∀ g, some g = u.ownBlock → Z g
theorem Bok.same {Z Z' : Nat → Prop} {w w' : World} {B : Nat} {T e : TypeId} {sz : Nat} {F : Nat → Nat → Value} {v : Value} {N : Nat} (h : Bok Z w B T e sz F v N) (hv : ∀ g, some g = v.ownBlock → w'.heap[g]? = w.heap[g]?) (hz : ∀ g, Z g → w'.heap[g]? = w.heap[g]?) (hZ : ∀ g, Z g → Z' g) : Bok Z' w' B T e sz F v N := by
  obtain ⟨q, h1, h2⟩ := h
  refine ⟨q, own_same h1 hv, fun i hi u hu => ?_⟩
  obtain ⟨⟨n, hn, hr⟩, hg⟩ := h2 i hi u hu
  exact ⟨⟨n, hn, RdM.same' hr (fun g hg' => hz g (hg g hg'))⟩, fun g hg' => hZ g (hg g hg')⟩
theorem Bok.book {Z : Nat → Prop} {w : World} {B : Nat} {T e : TypeId} {sz : Nat} {F : Nat → Nat → Value} {v : Value} {N : Nat} (h : Bok Z w B T e sz F v N) : Book w B T e sz F v N := by
  obtain ⟨q, h1, h2⟩ := h
  exact ⟨q, h1, fun i hi => ⟨(h2 i hi _ (Or.inl rfl)).1, (h2 i hi _ (Or.inr (Or.inl rfl))).1, (h2 i hi _ (Or.inr (Or.inr (Or.inl rfl)))).1, (h2 i hi _ (Or.inr (Or.inr (Or.inr rfl)))).1⟩⟩
theorem Bok.nil (Z : Nat → Prop) (w : World) (B : Nat) (T e : TypeId) (sz : Nat) (F : Nat → Nat → Value) : Bok Z w B T e sz F (.slice none 0 0) 0 := ⟨fun _ => ⟨.slice none 0 0, .slice none 0 0, .slice none 0 0, .slice none 0 0⟩, World.ownsRow_nil _ _ _ _, fun _ hi => absurd hi (Nat.not_lt_zero _)⟩

/-- What the law itself changes. -/
def Mu (wb : Nat) (hv ke ks kr : Value) (hs : List Nat) (g : Nat) : Prop := g = wb ∨ some g = hv.ownBlock ∨ some g = ke.ownBlock ∨ some g = ks.ownBlock ∨ some g = kr.ownBlock ∨ g ∈ hs
def h0 : Ho := ⟨0, 0, 0, 0, .slice none 0 0, fun _ => 0, 0, 0, ⟨0, 0, 0, .slice none 0 0, ⟨#[]⟩, 0, 0, 0, 0, .slice none 0 0, fun _ => .slice none 0 0, fun _ => [], fun _ => .slice none 0 0, fun _ => 0, .slice none 0 0, [], fun _ => .slice none 0 0, 0⟩, Lg.new 0 0 0 0 0 0, [], [], ⟨.slice none 0 0, .slice none 0 0, fun _ => .slice none 0 0, fun _ _ => .slice none 0 0, .slice none 0 0, fun _ => .slice none 0 0, fun _ => 0, .slice none 0 0⟩⟩
def wdC (g0 g1 g2 g3 hv ke ks kr : Value) : Array Value := #[g0, g1, g2, g3, .slice none 0 0, .slice none 0 0, .slice none 0 0, .slice none 0 0, hv, .slice none 0 0, .slice none 0 0, .slice none 0 0, ke, ks, kr]
/-- The law's world; the host at the hole is told apart. -/
structure HI (P : Lg → List Tl → Prop) (Z : Nat → Prop) (w : World) (B wb : Nat) (g0 g1 g2 g3 hv ke ks kr : Value) (Ne Ns Nr M : Nat) (hs : List Ho) (hole : Option Nat) : Prop where
  blk : w.heap[wb]? = some (Obj.cells (wdC g0 g1 g2 g3 hv ke ks kr) 91 (0, 0))
  ge : B ≤ wb
  be : Bok Z w B 169 66 3 fE ke Ne
  bs : Bok Z w B 172 142 3 fS ks Ns
  br : ∃ F, RowMark F ∧ Bok Z w B 175 75 1 F kr Nr
  row : w.ownsRow B 152 1 hv hs.length (hs.map (fun x => ptrV x.hb))
  hob : ∀ j, j < hs.length → w.heap[(hs.getD j h0).hb]? = some (Obj.cells (hoC (hs.getD j h0)) 155 (0, 0))
  one : ∀ j, j < hs.length → some j ≠ hole → HoAt P Z w M (hs.getD j h0)
  hge : ∀ j, j < hs.length → B ≤ (hs.getD j h0).B ∧ B ≤ (hs.getD j h0).hb
  lt : ∀ j, j < hs.length → ∀ k, (hs.getD j h0).ρ k ≠ 0 → k < w.heap.size ∧ (hs.getD j h0).B ≤ k
  dis : ∀ i j, i < hs.length → j < hs.length → i ≠ j → (hs.getD i h0).hb ≠ (hs.getD j h0).hb ∧ ∀ k, (hs.getD i h0).ρ k ≠ 0 → (hs.getD j h0).ρ k = 0
  zm : ∀ g, Z g → g < w.heap.size ∧ ¬ Mu wb hv ke ks kr (hs.map Ho.hb) g ∧ ∀ j, j < hs.length → (hs.getD j h0).ρ g = 0
  rm : ∀ g, Mu wb hv ke ks kr (hs.map Ho.hb) g → ∀ j, j < hs.length → (hs.getD j h0).ρ g = 0
  mb : Ne ≤ M ∧ Ns ≤ 8 * M ∧ Nr ≤ M ∧ hs.length ≤ M

theorem hb_mem {hs : List Ho} {j : Nat} (hj : j < hs.length) : (hs.getD j h0).hb ∈ hs.map Ho.hb := by
  rw [← List.getElem_eq_getD (h := hj)]
  exact List.mem_map.2 ⟨_, List.getElem_mem hj, rfl⟩
theorem mem_hb {hs : List Ho} {g : Nat} (h : g ∈ hs.map Ho.hb) : ∃ j, j < hs.length ∧ g = (hs.getD j h0).hb := by
  obtain ⟨x, hx, rfl⟩ := List.mem_map.1 h
  obtain ⟨j, hj, e⟩ := List.mem_iff_getElem.1 hx
  exact ⟨j, hj, by rw [← List.getElem_eq_getD (h := hj), e]⟩
theorem HI.mty {P : Lg → List Tl → Prop} {Z : Nat → Prop} {w : World} {B wb : Nat} {g0 g1 g2 g3 hv ke ks kr : Value} {Ne Ns Nr M : Nat} {hs : List Ho} {hole : Option Nat} (h : HI P Z w B wb g0 g1 g2 g3 hv ke ks kr Ne Ns Nr M hs hole) {g : Nat} (hg : Mu wb hv ke ks kr (hs.map Ho.hb) g) : B ≤ g ∧ ∃ C t, w.heap[g]? = some (Obj.cells C t (0, 0)) ∧ (t = 91 ∨ t = 152 ∨ t = 169 ∨ t = 172 ∨ t = 175 ∨ t = 155) := by
  rcases hg with rfl | hg | hg | hg | hg | hg
  · exact ⟨h.ge, _, _, h.blk, by simp⟩
  · obtain ⟨h1, _, D, hD⟩ := own_block h.row hg
    exact ⟨h1, _, _, hD, by simp⟩
  · obtain ⟨q, h1, _⟩ := h.be
    obtain ⟨h1, _, D, hD⟩ := own_block h1 hg
    exact ⟨h1, _, _, hD, by simp⟩
  · obtain ⟨q, h1, _⟩ := h.bs
    obtain ⟨h1, _, D, hD⟩ := own_block h1 hg
    exact ⟨h1, _, _, hD, by simp⟩
  · obtain ⟨F, _, q, h1, _⟩ := h.br
    obtain ⟨h1, _, D, hD⟩ := own_block h1 hg
    exact ⟨h1, _, _, hD, by simp⟩
  · obtain ⟨j, hj, rfl⟩ := mem_hb hg
    exact ⟨(h.hge j hj).2, _, _, h.hob j hj, by simp⟩
theorem HI.mn {P : Lg → List Tl → Prop} {Z : Nat → Prop} {w : World} {B wb : Nat} {g0 g1 g2 g3 hv ke ks kr : Value} {Ne Ns Nr M : Nat} {hs : List Ho} {hole : Option Nat} (h : HI P Z w B wb g0 g1 g2 g3 hv ke ks kr Ne Ns Nr M hs hole) {g : Nat} (hg : Mu wb hv ke ks kr (hs.map Ho.hb) g) : ¬ isN w g := by
  obtain ⟨_, C, t, h1, h2⟩ := h.mty hg
  rintro ⟨C', fr, h3⟩
  have := cells_ty h1 h3
  subst this
  rcases h2 with h2 | h2 | h2 | h2 | h2 | h2 <;> exact absurd h2 (by decide)
theorem HI.mlt {P : Lg → List Tl → Prop} {Z : Nat → Prop} {w : World} {B wb : Nat} {g0 g1 g2 g3 hv ke ks kr : Value} {Ne Ns Nr M : Nat} {hs : List Ho} {hole : Option Nat} (h : HI P Z w B wb g0 g1 g2 g3 hv ke ks kr Ne Ns Nr M hs hole) {g : Nat} (hg : Mu wb hv ke ks kr (hs.map Ho.hb) g) : g < w.heap.size := by
  obtain ⟨_, C, t, h1, _⟩ := h.mty hg
  exact (Array.getElem?_eq_some_iff.1 h1).1

/-- Fresh blocks alone. -/
theorem HI.below {P : Lg → List Tl → Prop} {Z : Nat → Prop} {w w' : World} {B wb : Nat} {g0 g1 g2 g3 hv ke ks kr : Value} {Ne Ns Nr M : Nat} {hs : List Ho} {hole : Option Nat} (h : HI P Z w B wb g0 g1 g2 g3 hv ke ks kr Ne Ns Nr M hs hole) (hb : Below w.heap.size w w') : HI P Z w' B wb g0 g1 g2 g3 hv ke ks kr Ne Ns Nr M hs hole := by
  have hz : ∀ g, Z g → w'.heap[g]? = w.heap[g]? := fun g hg => hb.block g (h.zm g hg).1
  have hm : ∀ g, Mu wb hv ke ks kr (hs.map Ho.hb) g → w'.heap[g]? = w.heap[g]? := fun g hg => hb.block g (h.mlt hg)
  refine ⟨(hm wb (Or.inl rfl)).trans h.blk, h.ge, h.be.same (fun g hg => hm g (by simp [Mu, hg])) hz (fun _ q => q), h.bs.same (fun g hg => hm g (by simp [Mu, hg])) hz (fun _ q => q), ?_, own_belowR h.row hb, fun j hj => (hm _ (by simp only [Mu]; exact Or.inr (Or.inr (Or.inr (Or.inr (Or.inr (hb_mem hj))))))).trans (h.hob j hj), fun j hj hne => (h.one j hj hne).same (fun g q => hb.block g (by rcases q with q | q; exact (h.lt j hj g q).1; exact isN_lt q)) hz hb.size (fun _ q => q) (Nat.le_refl _), h.hge, fun j hj k hk => ⟨Nat.lt_of_lt_of_le (h.lt j hj k hk).1 hb.size, (h.lt j hj k hk).2⟩, h.dis, fun g hg => ⟨Nat.lt_of_lt_of_le (h.zm g hg).1 hb.size, (h.zm g hg).2⟩, h.rm, h.mb⟩
  obtain ⟨F, h1, h2⟩ := h.br
  exact ⟨F, h1, h2.same (fun g hg => hm g (by simp [Mu, hg])) hz (fun _ q => q)⟩
/-- More room, more blocks that stay. -/
theorem HI.more {P : Lg → List Tl → Prop} {Z : Nat → Prop} {w : World} {B wb : Nat} {g0 g1 g2 g3 hv ke ks kr : Value} {Ne Ns Nr M M' : Nat} {hs : List Ho} {hole : Option Nat} (h : HI P Z w B wb g0 g1 g2 g3 hv ke ks kr Ne Ns Nr M hs hole) (hM : M ≤ M') {Y : Nat → Prop} (hY : ∀ g, Y g → g < w.heap.size ∧ ¬ Mu wb hv ke ks kr (hs.map Ho.hb) g ∧ ∀ j, j < hs.length → (hs.getD j h0).ρ g = 0) : HI P (fun g => Z g ∨ Y g) w B wb g0 g1 g2 g3 hv ke ks kr Ne Ns Nr M' hs hole := by
  refine ⟨h.blk, h.ge, h.be.same (fun _ _ => rfl) (fun _ _ => rfl) (fun _ q => Or.inl q), h.bs.same (fun _ _ => rfl) (fun _ _ => rfl) (fun _ q => Or.inl q), ?_, h.row, h.hob, fun j hj hne => (h.one j hj hne).same (fun _ _ => rfl) (fun _ _ => rfl) (Nat.le_refl _) (fun _ q => Or.inl q) hM, h.hge, h.lt, h.dis, fun g hg => hg.elim (h.zm g) (hY g), h.rm, ?_⟩
  · obtain ⟨F, h1, h2⟩ := h.br
    exact ⟨F, h1, h2.same (fun _ _ => rfl) (fun _ _ => rfl) (fun _ q => Or.inl q)⟩
  · have := h.mb
    omega
end Go.Proofs.YtkncboinfcnklaaGreatDoor.Lw

namespace Go.Proofs.YtkncboinfcnklaaGreatDoor.Lw
open Go.RowKit Go.Deep Go.Shelf Go.Proofs.YtkncboinfcnklaaGreatDoor.Mth Go.Proofs.YtkncboinfcnklaaGreatDoor.Rl

theorem HI.punch {P : Lg → List Tl → Prop} {Z : Nat → Prop} {w : World} {B wb : Nat} {g0 g1 g2 g3 hv ke ks kr : Value} {Ne Ns Nr M : Nat} {hs : List Ho} (h : HI P Z w B wb g0 g1 g2 g3 hv ke ks kr Ne Ns Nr M hs none) {i : Nat} (hi : i < hs.length) : HI P Z w B wb g0 g1 g2 g3 hv ke ks kr Ne Ns Nr M hs (some i) ∧ HoAt P Z w M (hs.getD i h0) :=
  ⟨⟨h.blk, h.ge, h.be, h.bs, h.br, h.row, h.hob, fun j hj _ => h.one j hj (by simp), h.hge, h.lt, h.dis, h.zm, h.rm, h.mb⟩, h.one i hi (by simp)⟩
theorem HI.fill {P : Lg → List Tl → Prop} {Z : Nat → Prop} {w : World} {B wb : Nat} {g0 g1 g2 g3 hv ke ks kr : Value} {Ne Ns Nr M : Nat} {hs : List Ho} {i : Nat} (h : HI P Z w B wb g0 g1 g2 g3 hv ke ks kr Ne Ns Nr M hs (some i)) (hx : HoAt P Z w M (hs.getD i h0)) : HI P Z w B wb g0 g1 g2 g3 hv ke ks kr Ne Ns Nr M hs none :=
  ⟨h.blk, h.ge, h.be, h.bs, h.br, h.row, h.hob, fun j hj _ => by
    by_cases e : j = i
    · rw [e]; exact hx
    · exact h.one j hj (fun q => e (by injection q)), h.hge, h.lt, h.dis, h.zm, h.rm, h.mb⟩

theorem getD_set {hs : List Ho} {i j : Nat} {x : Ho} (hi : i < hs.length) : (hs.set i x).getD j h0 = if j = i then x else hs.getD j h0 := by
  by_cases e : j = i
  · subst e
    rw [if_pos rfl, List.getD_eq_getElem?_getD, List.getElem?_set_self hi]
    rfl
  · rw [if_neg e, List.getD_eq_getElem?_getD, List.getElem?_set_ne (fun q => e q.symm), ← List.getD_eq_getElem?_getD]
theorem map_hb_set {hs : List Ho} {i : Nat} {x : Ho} (hi : i < hs.length) (hx : x.hb = (hs.getD i h0).hb) : (hs.set i x).map Ho.hb = hs.map Ho.hb := by
  apply List.ext_getElem?
  intro j
  rw [List.getElem?_map, List.getElem?_map]
  by_cases e : j = i
  · subst e
    rw [List.getElem?_set_self hi, List.getElem?_eq_getElem hi, List.getElem_eq_getD h0]
    simp [hx]
  · rw [List.getElem?_set_ne (fun q => e q.symm)]
theorem map_ptr_set {hs : List Ho} {i : Nat} {x : Ho} (hi : i < hs.length) (hx : x.hb = (hs.getD i h0).hb) : (hs.set i x).map (fun x => ptrV x.hb) = hs.map (fun x => ptrV x.hb) := by
  have := congrArg (List.map ptrV) (map_hb_set hi hx)
  simpa [List.map_map, Function.comp_def] using this

/-- A step of one host: its log's blocks change, its own block, fresh ones. -/
theorem HI.step {P : Lg → List Tl → Prop} {Z : Nat → Prop} {w w1 : World} {B wb : Nat} {g0 g1 g2 g3 hv ke ks kr : Value} {Ne Ns Nr M : Nat} {hs : List Ho} {i : Nat} (h : HI P Z w B wb g0 g1 g2 g3 hv ke ks kr Ne Ns Nr M hs (some i)) (hi : i < hs.length) {S : Nat → Prop} (ht : Tch S w w1)
    (hS : ∀ g, S g → g < w.heap.size → ¬ Z g ∧ (Mu wb hv ke ks kr (hs.map Ho.hb) g → g = (hs.getD i h0).hb) ∧ (∀ j, j < hs.length → j ≠ i → (hs.getD j h0).ρ g = 0) ∧ ¬ isN w g) (x : Ho) (e1 : x.hb = (hs.getD i h0).hb) (e2 : x.B = (hs.getD i h0).B) (hb : w1.heap[x.hb]? = some (Obj.cells (hoC x) 155 (0, 0)))
    (hold : ∀ k, k < w.heap.size → (hs.getD i h0).ρ k = 0 → x.ρ k = 0) (hlt : ∀ k, x.ρ k ≠ 0 → k < w1.heap.size ∧ x.B ≤ k) : HI P Z w1 B wb g0 g1 g2 g3 hv ke ks kr Ne Ns Nr M (hs.set i x) (some i) := by
  have hz : ∀ g, Z g → w1.heap[g]? = w.heap[g]? := fun g hg => ht.block g (h.zm g hg).1 (fun q => (hS g q (h.zm g hg).1).1 hg)
  have hm : ∀ g, Mu wb hv ke ks kr (hs.map Ho.hb) g → g ≠ (hs.getD i h0).hb → w1.heap[g]? = w.heap[g]? := fun g hg hne => ht.block g (h.mlt hg) (fun q => hne ((hS g q (h.mlt hg)).2.1 hg))
  have hbm : Mu wb hv ke ks kr (hs.map Ho.hb) (hs.getD i h0).hb := Or.inr (Or.inr (Or.inr (Or.inr (Or.inr (hb_mem hi)))))
  have hty : ∀ g C t, w.heap[g]? = some (Obj.cells C t (0, 0)) → t ≠ 155 → g ≠ (hs.getD i h0).hb := fun g C t hg hne e => by
    rw [e, h.hob i hi] at hg
    injection hg with hg
    injection hg with _ hg _
    exact hne hg.symm
  have hown : ∀ {T : TypeId} {sz n : Nat} {v : Value} {xs : List Value}, w.ownsRow B T sz v n xs → T ≠ 155 → (∀ g, some g = v.ownBlock → Mu wb hv ke ks kr (hs.map Ho.hb) g) → ∀ g, some g = v.ownBlock → w1.heap[g]? = w.heap[g]? := fun ho hT hM g hg => by
    obtain ⟨_, _, D, hD⟩ := own_block ho hg
    exact hm g (hM g hg) (hty g D _ hD hT)
  have hsl : (hs.set i x).length = hs.length := List.length_set
  have em := map_hb_set (x := x) hi e1
  have gd : ∀ j, (hs.set i x).getD j h0 = if j = i then x else hs.getD j h0 := fun j => getD_set hi
  have hle := ht.size
  refine ⟨?_, h.ge, ?_, ?_, ?_, ?_, fun j hj => ?_, fun j hj hne => ?_, fun j hj => ?_, fun j hj k hk => ?_, fun a b ha hb' hne => ?_, fun g hg => ?_, fun g hg j hj => ?_, by have := h.mb; rw [hsl]; exact this⟩
  · exact (hm wb (Or.inl rfl) (hty wb _ _ h.blk (by decide))).trans h.blk
  · obtain ⟨q, h1, h2⟩ := h.be
    exact Bok.same ⟨q, h1, h2⟩ (hown h1 (by decide) (fun g hg => by simp [Mu, hg])) hz (fun _ q => q)
  · obtain ⟨q, h1, h2⟩ := h.bs
    exact Bok.same ⟨q, h1, h2⟩ (hown h1 (by decide) (fun g hg => by simp [Mu, hg])) hz (fun _ q => q)
  · obtain ⟨F, hF, q, h1, h2⟩ := h.br
    exact ⟨F, hF, Bok.same ⟨q, h1, h2⟩ (hown h1 (by decide) (fun g hg => by simp [Mu, hg])) hz (fun _ q => q)⟩
  · rw [map_ptr_set hi e1, hsl]
    exact own_same h.row (hown h.row (by decide) (fun g hg => by simp [Mu, hg]))
  · rw [hsl] at hj
    rw [gd j]
    by_cases e : j = i
    · rw [if_pos e]; exact hb
    · rw [if_neg e]
      exact (hm _ (Or.inr (Or.inr (Or.inr (Or.inr (Or.inr (hb_mem hj)))))) (h.dis j i hj hi e).1).trans (h.hob j hj)
  · rw [hsl] at hj
    have e : j ≠ i := fun q => hne (by rw [q])
    rw [gd j, if_neg e]
    refine (h.one j hj (fun q => e (by injection q))).same (fun g q => ?_) hz hle (fun _ q => q) (Nat.le_refl _)
    rcases q with q | q
    · have hgl := (h.lt j hj g q).1
      exact ht.block g hgl (fun s => q ((hS g s hgl).2.2.1 j hj e))
    · exact ht.block g (isN_lt q) (fun s => (hS g s (isN_lt q)).2.2.2 q)
  · rw [hsl] at hj
    rw [gd j]
    by_cases e : j = i
    · rw [if_pos e, e1, e2]; exact h.hge i hi
    · rw [if_neg e]; exact h.hge j hj
  · rw [hsl] at hj
    rw [gd j] at hk ⊢
    by_cases e : j = i
    · rw [if_pos e] at hk ⊢; exact hlt k hk
    · rw [if_neg e] at hk ⊢
      have := h.lt j hj k hk
      exact ⟨Nat.lt_of_lt_of_le this.1 hle, this.2⟩
  · rw [hsl] at ha hb'
    rw [gd a, gd b]
    by_cases ea : a = i
    · have eb : b ≠ i := fun q => hne (by rw [ea, q])
      rw [if_pos ea, if_neg eb, e1]
      subst ea
      refine ⟨(h.dis a b ha hb' hne).1, fun k hk => ?_⟩
      by_cases hk2 : k < w.heap.size
      · exact (h.dis a b ha hb' hne).2 k (fun q => hk (hold k hk2 q))
      · by_cases q : (hs.getD b h0).ρ k = 0
        · exact q
        · exact absurd (h.lt b hb' k q).1 hk2
    · by_cases eb : b = i
      · rw [if_neg ea, if_pos eb, e1]
        subst eb
        refine ⟨(h.dis a b ha hb' hne).1, fun k hk => ?_⟩
        exact hold k (h.lt a ha k hk).1 ((h.dis a b ha hb' hne).2 k hk)
      · rw [if_neg ea, if_neg eb]
        exact h.dis a b ha hb' hne
  · rw [em, hsl]
    obtain ⟨z1, z2, z3⟩ := h.zm g hg
    refine ⟨Nat.lt_of_lt_of_le z1 hle, z2, fun j hj => ?_⟩
    rw [gd j]
    by_cases e : j = i
    · rw [if_pos e]; exact hold g z1 (z3 i hi)
    · rw [if_neg e]; exact z3 j hj
  · rw [em] at hg
    rw [hsl] at hj
    rw [gd j]
    by_cases e : j = i
    · rw [if_pos e]; exact hold g (h.mlt hg) (h.rm g hg i hi)
    · rw [if_neg e]; exact h.rm g hg j hj

/-- The program's call on one host's log. -/
theorem HI.prog {P : Lg → List Tl → Prop} {Z : Nat → Prop} {w w1 : World} {B wb : Nat} {g0 g1 g2 g3 hv ke ks kr : Value} {Ne Ns Nr M : Nat} {hs : List Ho} {i : Nat} (h : HI P Z w B wb g0 g1 g2 g3 hv ke ks kr Ne Ns Nr M hs (some i)) (hi : i < hs.length) {ρ' : Nat → Nat} (hl : LStp w w1 (hs.getD i h0).ρ ρ') (G' : Gh) (L' : Lg) (N' : Nat) (al : List Ent) (ts' : List Tl)
    (hc : hoC { (hs.getD i h0) with ρ := ρ', G := G', L := L', N := N', all := al, ts := ts' } = hoC (hs.getD i h0)) (hlt : ∀ k, ρ' k ≠ 0 → k < w1.heap.size ∧ (hs.getD i h0).B ≤ k) :
    HI P Z w1 B wb g0 g1 g2 g3 hv ke ks kr Ne Ns Nr M (hs.set i { (hs.getD i h0) with ρ := ρ', G := G', L := L', N := N', all := al, ts := ts' }) (some i) ∧ (∀ g, Z g → w1.heap[g]? = w.heap[g]?) := by
  have hbm : Mu wb hv ke ks kr (hs.map Ho.hb) (hs.getD i h0).hb := Or.inr (Or.inr (Or.inr (Or.inr (Or.inr (hb_mem hi)))))
  refine ⟨h.step hi hl.tch (fun g hS hg => ⟨fun hz => hS.1 ((h.zm g hz).2.2 i hi), fun hm => absurd (h.rm g hm i hi) hS.1, fun j hj hne => (h.dis i j hi hj (fun q => hne q.symm)).2 g hS.1, hS.2⟩) _ rfl rfl ?_ hl.old hlt, fun g hz => hl.tch.block g (h.zm g hz).1 (fun q => q.1 ((h.zm g hz).2.2 i hi))⟩
  rw [hc]
  exact (hl.tch.block _ (h.mlt hbm) (fun q => q.1 (h.rm _ hbm i hi))).trans (h.hob i hi)

/-- What the log may be is put back. -/
theorem HI.setMay {P : Lg → List Tl → Prop} {Z : Nat → Prop} {w : World} {B wb : Nat} {g0 g1 g2 g3 hv ke ks kr : Value} {Ne Ns Nr M : Nat} {hs : List Ho} {i : Nat} (h : HI P Z w B wb g0 g1 g2 g3 hv ke ks kr Ne Ns Nr M hs (some i)) (hi : i < hs.length) (mv : Value) (V' : Rv) :
    HI P Z (w.setCell ⟨(hs.getD i h0).hb, 9, none⟩ mv) B wb g0 g1 g2 g3 hv ke ks kr Ne Ns Nr M (hs.set i { (hs.getD i h0) with mv := mv, V := V' }) (some i) := by
  have hbm : Mu wb hv ke ks kr (hs.map Ho.hb) (hs.getD i h0).hb := Or.inr (Or.inr (Or.inr (Or.inr (Or.inr (hb_mem hi)))))
  have htc : Tch (fun g => g = (hs.getD i h0).hb) w (w.setCell ⟨(hs.getD i h0).hb, 9, none⟩ mv) := ⟨rfl, rfl, rfl, by simp, fun k _ hn => set_other hn⟩
  refine h.step hi htc (fun g hS hg => ?_) _ rfl rfl ?_ (fun _ _ q => q) (fun k hk => ⟨by simpa using (h.lt i hi k hk).1, (h.lt i hi k hk).2⟩)
  · subst hS
    exact ⟨fun hz => (h.zm _ hz).2.1 hbm, fun _ => rfl, fun j hj _ => h.rm _ hbm j hj, h.mn hbm⟩
  · exact set_blk (h.hob i hi)
end Go.Proofs.YtkncboinfcnklaaGreatDoor.Lw

namespace Go.Proofs.YtkncboinfcnklaaGreatDoor
open Go.RowKit Go.Deep Go.Proofs.YtkncboinfcnklaaGreatDoor.Mth

set_option maxHeartbeats 400000 in
theorem pick_fix (c n : Int) (h0 : -9223372036854775808 ≤ c) (h1 : c < 9223372036854775808) (hn : 0 < n) (hn1 : n ≤ 4611686018427387904) :
    ∃ r : Int, 0 ≤ r ∧ r < n ∧ ∀ w, Calls Tryz.prog 15 #[.int .i64 c, .int .i64 n] w fun e w' => e = .returned (.int .i64 r) ∧ w' = w := by
  have hz : (n == 0) = false := by simp; omega
  by_cases hc : c < 0
  · have hm : 0 ≤ (-(c + 1)).tmod n ∧ (-(c + 1)).tmod n < n := ⟨Int.tmod_nonneg _ (by omega), Int.tmod_lt_of_pos _ hn⟩
    rw [Int.neg_tmod] at hm
    refine ⟨_, hm.1, hm.2, fun w => ?_⟩
    clear hm
    go_enter Tryz.func15, Tryz.ntmps15
    go_wp2
    go_ret
    exact ⟨rfl, rfl⟩
  · refine ⟨_, Int.emod_nonneg c (show n ≠ 0 by omega), Int.emod_lt_of_pos _ hn, fun w => ?_⟩
    go_enter Tryz.func15, Tryz.ntmps15
    go_wp2
    go_ret
    exact ⟨rfl, rfl⟩

end Go.Proofs.YtkncboinfcnklaaGreatDoor

namespace Go.Proofs.YtkncboinfcnklaaGreatDoor
open Go.RowKit Go.Deep Go.Proofs.YtkncboinfcnklaaGreatDoor.Mth

/-- A step of a script. -/
structure Opr where
  k : Int
  A : Int
  B : Int
  C : Int
  S : ByteArray
  T : ByteArray
def o0 : Opr := ⟨0, 0, 0, 0, ⟨#[]⟩, ⟨#[]⟩⟩
def oV (o : Opr) : Value := .agg #[.int .i64 o.k, .int .i64 o.A, .int .i64 o.B, .int .i64 o.C, .string o.S, .string o.T]
/-- Steps that may be: numbers of the machine, texts that are not too long. -/
def OkO (o : Opr) : Prop := -9223372036854775808 ≤ o.A ∧ o.A < 9223372036854775808 ∧ o.S.size ≤ 1048576

/-- A script that is read. -/
def RdO (w : World) (v : Value) (l : List Opr) : Prop :=
  ∃ (a : Option Addr) (c : Nat), v = .slice a l.length c ∧ l.length ≤ c ∧ c ≤ maxLen ∧ (l = [] ∨ ∃ b o, a = some ⟨b, o, none⟩ ∧ ∀ j, j < l.length → w.cell? ⟨b, o + j * 6, none⟩ = some (.int .i64 (l.getD j o0).k) ∧ w.cell? ⟨b, o + j * 6 + 1, none⟩ = some (.int .i64 (l.getD j o0).A) ∧ w.cell? ⟨b, o + j * 6 + 2, none⟩ = some (.int .i64 (l.getD j o0).B) ∧ w.cell? ⟨b, o + j * 6 + 3, none⟩ = some (.int .i64 (l.getD j o0).C) ∧ w.cell? ⟨b, o + j * 6 + 4, none⟩ = some (.string (l.getD j o0).S) ∧ w.cell? ⟨b, o + j * 6 + 5, none⟩ = some (.string (l.getD j o0).T))

theorem RdO.below {w w' : World} {v : Value} {l : List Opr} (h : RdO w v l) (hb : Below w.heap.size w w') : RdO w' v l := by
  obtain ⟨a, c, rfl, hc, hm, h⟩ := h
  refine ⟨a, c, rfl, hc, hm, ?_⟩
  rcases h with h | ⟨b, o, rfl, h⟩
  · exact Or.inl h
  · refine Or.inr ⟨b, o, rfl, fun j hj => ?_⟩
    obtain ⟨h0, h1, h2, h3, h4, h5⟩ := h j hj
    have hlt : b < w.heap.size := World.block_lt_of_cell? _ _ h0
    exact ⟨(hb.cell (p := ⟨b, _, none⟩) hlt).trans h0, (hb.cell (p := ⟨b, _, none⟩) hlt).trans h1, (hb.cell (p := ⟨b, _, none⟩) hlt).trans h2, (hb.cell (p := ⟨b, _, none⟩) hlt).trans h3, (hb.cell (p := ⟨b, _, none⟩) hlt).trans h4, (hb.cell (p := ⟨b, _, none⟩) hlt).trans h5⟩
theorem rdO_len {w : World} {v : Value} {l : List Opr} (h : RdO w v l) : ∃ a c, v = .slice a l.length c ∧ l.length ≤ c ∧ c ≤ maxLen := by
  obtain ⟨a, c, rfl, hc, hm, _⟩ := h
  exact ⟨a, c, rfl, hc, hm⟩
theorem rdO_at {w : World} {a : Option Addr} {n c : Nat} {l : List Opr} (h : RdO w (.slice a n c) l) (j : Nat) (hj : j < l.length) : ∃ b o, a = some ⟨b, o, none⟩ ∧ b < w.heap.size ∧ w.cell? ⟨b, o + j * 6, none⟩ = some (.int .i64 (l.getD j o0).k) ∧ w.cell? ⟨b, o + j * 6 + 1, none⟩ = some (.int .i64 (l.getD j o0).A) ∧ w.cell? ⟨b, o + j * 6 + 2, none⟩ = some (.int .i64 (l.getD j o0).B) ∧ w.cell? ⟨b, o + j * 6 + 3, none⟩ = some (.int .i64 (l.getD j o0).C) ∧ w.cell? ⟨b, o + j * 6 + 4, none⟩ = some (.string (l.getD j o0).S) ∧ w.cell? ⟨b, o + j * 6 + 5, none⟩ = some (.string (l.getD j o0).T) := by
  obtain ⟨a', c', e, _, _, h⟩ := h
  injection e with e1 e2 e3
  rcases h with h | ⟨b, o, e4, h⟩
  · subst h; simp at hj
  · exact ⟨b, o, e1.trans e4, World.block_lt_of_cell? _ _ (h j hj).1, h j hj⟩

end Go.Proofs.YtkncboinfcnklaaGreatDoor

namespace Go.Proofs.YtkncboinfcnklaaGreatDoor.Lw
open Go.RowKit Go.Deep Go.Shelf Go.Proofs.YtkncboinfcnklaaGreatDoor.Mth Go.Proofs.YtkncboinfcnklaaGreatDoor.Rl

theorem Tryz.infoLogR : (Tryz.prog.info? 234).map (fun i => (i.zero, i.size, i.bytes)) = some (some (.agg zrC), 20, 336) := by kernel_rfl
theorem RfV.zz2 {Z Z' : Nat → Prop} {B : Nat} {w : World} {V : Rv} {L : Lg} {all : List Ent} {ts : List Tl} (h : RfV Z B w V L all ts) (hZ : ∀ g, B ≤ g → g < w.heap.size → Z' g) : RfZ Z' V L.wks.length :=
  ⟨fun g q => hZ g (own_block h.all q).1 (own_block h.all q).2.1, fun g q => hZ g (own_block h.mem q).1 (own_block h.mem q).2.1, fun i hi g q => hZ g (own_block (h.lev i hi) q).1 (own_block (h.lev i hi) q).2.1, fun g q => hZ g (own_block h.wks q).1 (own_block h.wks q).2.1, fun i hi g q => hZ g (own_block (h.lst i hi) q).1 (own_block (h.lst i hi) q).2.1, fun g q => hZ g (own_block h.tls q).1 (own_block h.tls q).2.1⟩
/-- What stands behind the reference's turn. -/
structure RfT (Z : Nat → Prop) (w2 w10 : World) (L' : Lg) (al : List Ent) (ts : List Tl) (mv : Value) (V2 : Rv) : Prop where
  bel : Below w2.heap.size w2 w10
  own : w10.ownsRow w2.heap.size 234 20 mv 1 (rfC V2 L').toList
  ref : RfV (fun g => Z g ∨ w2.heap.size ≤ g) w2.heap.size w10 V2 L' al ts

/-- The host is whole again. -/
theorem lays_fin {P : Lg → List Tl → Prop} {Z : Nat → Prop} {w2 w10 : World} {B wb : Nat} {g0 g1 g2 g3 hv ke ks kr : Value} {Ne Ns Nr M : Nat} {hs : List Ho} {i : Nat} (h : HI P Z w2 B wb g0 g1 g2 g3 hv ke ks kr Ne Ns Nr M hs (some i)) (hi : i < hs.length) {mv : Value} {V2 : Rv} (hr : RfT Z w2 w10 (hs.getD i h0).L (hs.getD i h0).all (hs.getD i h0).ts mv V2)
    (hl : LogAt w2 (hs.getD i h0).ρ (hs.getD i h0).B (hs.getD i h0).N (hs.getD i h0).lb (hs.getD i h0).G (hs.getD i h0).L) (hI : Inv (hs.getD i h0).L (hs.getD i h0).all) (h1 : (hs.getD i h0).G.left = -1) (h2 : (hs.getD i h0).G.db = (hs.getD i h0).d) (h3 : (hs.getD i h0).G.dt.size ≤ 64 * (M + 1) ∧ (hs.getD i h0).all.length ≤ M + 1) (hP : P (hs.getD i h0).L (hs.getD i h0).ts) :
    HI P (fun g => Z g ∨ (w2.heap.size ≤ g ∧ g < w10.heap.size)) (w10.setCell ⟨(hs.getD i h0).hb, 9, none⟩ mv) B wb g0 g1 g2 g3 hv ke ks kr Ne Ns Nr (M + 1) (hs.set i { (hs.getD i h0) with mv := mv, V := V2 }) none := by
  have hb10 := h.below hr.bel
  have hY : ∀ g, (w2.heap.size ≤ g ∧ g < w10.heap.size) → g < w10.heap.size ∧ ¬ Mu wb hv ke ks kr (hs.map Ho.hb) g ∧ ∀ j, j < hs.length → (hs.getD j h0).ρ g = 0 := fun g hg => ⟨hg.2, fun hm => by have := h.mlt hm; omega, fun j hj => by
    by_cases q : (hs.getD j h0).ρ g = 0
    · exact q
    · have := (h.lt j hj g q).1; omega⟩
  have hmo := hb10.more (M' := M + 1) (by omega) hY
  have hse := hmo.setMay hi mv V2
  refine hse.fill ?_
  rw [getD_set hi, if_pos rfl]
  have hbm : Mu wb hv ke ks kr (hs.map Ho.hb) (hs.getD i h0).hb := Or.inr (Or.inr (Or.inr (Or.inr (Or.inr (hb_mem hi)))))
  have hsz := hr.bel.size
  have hbl := h.mlt hbm
  have hset : ∀ g, g ≠ (hs.getD i h0).hb → (w10.setCell ⟨(hs.getD i h0).hb, 9, none⟩ mv).heap[g]? = w10.heap[g]? := fun g hg => set_other hg
  have kz : ∀ g, w2.heap.size ≤ g → g ≠ (hs.getD i h0).hb := fun g hg e => by omega
  have hZs : ∀ g, (Z g ∨ w2.heap.size ≤ g) → (w10.setCell ⟨(hs.getD i h0).hb, 9, none⟩ mv).heap[g]? = w10.heap[g]? := fun g hg => hset g (fun e => by
    rcases hg with hg | hg
    · exact (h.zm g hg).2.1 (by rw [e]; exact hbm)
    · omega)
  have hrz : RfZ (fun g => Z g ∨ w2.heap.size ≤ g) V2 (hs.getD i h0).L.wks.length := hr.ref.zz (fun g hg _ => Or.inr hg)
  have hzz : RfZ (fun g => Z g ∨ (w2.heap.size ≤ g ∧ g < w10.heap.size)) V2 (hs.getD i h0).L.wks.length := RfV.zz2 hr.ref (fun g hg hg2 => Or.inr ⟨hg, hg2⟩)
  have href := (hr.ref.same hrz hZs).base (Nat.zero_le _)
  have hl10 := hl.below hr.bel
  refine ⟨hl10.same (fun g q => hset g (fun e => ?_)) (by simp), hI, h1, h2, h3, own_mono (own_same hr.own (fun g hg => hset g (kz g (own_block hr.own hg).1))) (Nat.zero_le _), fun g hg => Or.inr ⟨(own_block hr.own hg).1, (own_block hr.own hg).2.1⟩, ⟨href.all, href.mem, href.lev, href.seg, fun a ha b hb' g hg => ?_, href.wks, href.lst, href.run, href.tls⟩, hzz, hP⟩
  · subst e
    rcases q with q | q
    · exact q (h.rm _ hbm i hi)
    · exact hb10.mn hbm q
  · rcases hr.ref.sz a ha b hb' g hg with q | q
    · exact Or.inl q
    · exact Or.inr ⟨q, (own_block (hr.ref.seg a ha b hb') hg).2.1⟩
end Go.Proofs.YtkncboinfcnklaaGreatDoor.Lw
