import Derived.Test.YtkncboinfcnklabGreatDoorQ2
import Derived.Test.YtkncboinfcnklabGreatDoorQ1
import Derived.Laws.Concat
import Derived.Laws.Strings2
import Derived.Deep.QuietTactic
import Derived.BigQuiet
import Derived.Maps.AppendAt
import Derived.Deep.RegionHeld3
import Derived.Deep.RegionLaw
import Derived.Laws.ResultCell
import Derived.Laws.Rows
namespace Go.Proofs.YtkncboinfcnklabGreatDoor
open Go.RowKit Go.Deep Go.Proofs.YtkncboinfcnklabGreatDoor.Mth

theorem Tryz.info49 : (Tryz.prog.info? 49).map (fun i => (i.zero, i.size, i.bytes)) = some (some (.agg #[.int .i64 0, .int .i64 0, .string ByteArray.empty]), 3, 32) := by kernel_rfl

/-! ### entries, one after the other -/
abbrev eC (e : Ent) : List Value := [.int .i64 e.seq, .int .i64 e.time, .string e.text]
/-- A row of entries of the call's own. -/
def CurE (w0 w : World) (v : Value) (l : List Ent) : Prop := Below w0.heap.size w0 w ∧ w.ownsRow w0.heap.size 49 3 v l.length (l.flatMap eC)

theorem flat_get : ∀ (l : List Ent) (j : Nat), j < l.length → (l.flatMap eC)[j * 3]? = some (.int .i64 (l.getD j e0).seq) ∧ (l.flatMap eC)[j * 3 + 1]? = some (.int .i64 (l.getD j e0).time) ∧ (l.flatMap eC)[j * 3 + 2]? = some (.string (l.getD j e0).text)
  | [], _, h => by simp at h
  | e :: l, 0, _ => by simp [List.flatMap_cons]
  | e :: l, j + 1, h => by
    have := flat_get l j (by simpa using h)
    rw [List.flatMap_cons, show (j + 1) * 3 = (eC e).length + j * 3 by simp; omega, show (eC e).length + j * 3 + 1 = (eC e).length + (j * 3 + 1) by omega, show (eC e).length + j * 3 + 2 = (eC e).length + (j * 3 + 2) by omega]
    rw [List.getElem?_append_right (by omega), List.getElem?_append_right (by omega), List.getElem?_append_right (by omega)]
    simp only [Nat.add_sub_cancel_left]
    simpa [List.getD] using this

theorem rdE_own {w : World} {B : Nat} {v : Value} {l : List Ent} (h : w.ownsRow B 49 3 v l.length (l.flatMap eC)) : RdE w v l := by
  have hc := fun g hg => h.cells (g := g) hg
  rcases h.2 with ⟨h0, h1⟩ | ⟨g, cap, cur, hv, _, hg, h1, h2, _⟩
  · have := List.length_eq_zero_iff.1 h1
    subst this
    exact ⟨none, 0, h0, Nat.le_refl _, by unfold maxLen; omega, Or.inl rfl⟩
  · refine ⟨_, cap, hv, h1, h2, Or.inr ⟨g, 0, rfl, fun j hj => ?_⟩⟩
    have hh := hc g (by rw [hv]; rfl)
    obtain ⟨q0, q1, q2⟩ := flat_get l j hj
    have hadd : ∀ i, (⟨g, 0, none⟩ : Addr).add i = ⟨g, 0 + i, none⟩ := fun i => by unfold Addr.add; split <;> simp_all
    exact ⟨by have := hh _ _ q0; rwa [hadd] at this, by have := hh _ _ q1; rwa [hadd] at this, by have := hh _ _ q2; rwa [hadd] at this⟩

theorem curE_append {w0 w w2 : World} {v v2 : Value} {o : Obj} {l : List Ent} {e : Ent} (h : CurE w0 w v l) (h2 : w2.ownsRow w0.heap.size 49 3 v2 (l.length + 1) (l.flatMap eC ++ eC e)) (hg : (w.alloc o).grownBy w2 v.ownBlock) : CurE w0 w2 v2 (l ++ [e]) := by
  refine ⟨?_, by simpa [List.flatMap_append] using h2⟩
  refine (h.1.trans ((below_alloc w o).mono h.1.size)).grown hg (by have := h.1.size; simp; omega) ?_
  intro k hk
  exact (h.2.lt k hk).1

theorem cell_three_new (w : World) (x y z : Value) (t : TypeId) : ∀ j u, [x, y, z][j]? = some u → (w.alloc (.cells #[x, y, z] t)).cell? ((⟨w.heap.size, 0, none⟩ : Addr).add j) = some u := by
  intro j u hj
  have hadd : (⟨w.heap.size, 0, none⟩ : Addr).add j = ⟨w.heap.size, j, none⟩ := by unfold Addr.add; split <;> simp_all
  have hb : (w.alloc (.cells #[x, y, z] t)).heap[w.heap.size]? = some (.cells #[x, y, z] t (0, 0)) := by
    show (w.heap.push _)[w.heap.size]? = _
    rw [Array.getElem?_push, if_pos rfl]
  rw [hadd]
  simp only [World.cell?, hb]
  simpa using hj

end Go.Proofs.YtkncboinfcnklabGreatDoor

namespace Go.Proofs.YtkncboinfcnklabGreatDoor.Mth
open Go.RowKit

/-! ### the sum, by another formula -/
end Go.Proofs.YtkncboinfcnklabGreatDoor.Mth

namespace Go.Proofs.YtkncboinfcnklabGreatDoor.Mth
open Go.RowKit Go.Proofs.YtkncboinfcnklabGreatDoor

/-! ### the index, by what the lists have -/
end Go.Proofs.YtkncboinfcnklabGreatDoor.Mth

namespace Go.Proofs.YtkncboinfcnklabGreatDoor.Mth
open Go.RowKit Go.Proofs.YtkncboinfcnklabGreatDoor

/-! ### words, by the document's way -/
/-- A letter or digit, the great ones as small ones; 0: none. -/
def ltr (c : Int) : Int := if (97 ≤ c ∧ c ≤ 122) ∨ (48 ≤ c ∧ c ≤ 57) then c else if 65 ≤ c ∧ c ≤ 90 then c + 32 else 0

def cut : List UInt8 → List Int → List (List UInt8)
  | cur, [] => if cur.isEmpty then [] else [cur]
  | cur, c :: l => if ltr c = 0 then (if cur.isEmpty then cut [] l else cur :: cut [] l) else cut (cur ++ [UInt8.ofNat (ltr c).toNat]) l

theorem sml_no {c : Int} (h : ltr c = 0) : sml c = 32 := by
  unfold ltr at h
  unfold sml
  split at h
  · omega
  · split at h
    · omega
    · rename_i h1 h2
      rw [if_neg h2, if_neg h1]
theorem sml_yes {c : Int} (h : ltr c ≠ 0) : sml c = ltr c ∧ ((97 ≤ sml c ∧ sml c ≤ 122) ∨ (48 ≤ sml c ∧ sml c ≤ 57)) := by
  unfold ltr at h ⊢
  unfold sml
  by_cases h1 : (97 ≤ c ∧ c ≤ 122) ∨ (48 ≤ c ∧ c ≤ 57)
  · rw [if_pos h1, if_neg (by omega), if_pos h1]
    exact ⟨rfl, h1⟩
  · rw [if_neg h1] at h ⊢
    by_cases h2 : 65 ≤ c ∧ c ≤ 90
    · rw [if_pos h2]
      simp only [if_neg h1, if_pos h2]
      exact ⟨trivial, by omega⟩
    · rw [if_neg h2] at h
      exact absurd rfl h

theorem sp_no {n : Nat} (h : (97 ≤ n ∧ n ≤ 122) ∨ (48 ≤ n ∧ n ≤ 57)) : Lib.isSp (UInt8.ofNat n) = false := by
  have hne : ∀ k : Nat, k < 48 → UInt8.ofNat n ≠ UInt8.ofNat k := fun k hk e => by
    have := congrArg UInt8.toNat e
    simp at this
    omega
  unfold Lib.isSp
  simp only [Bool.or_eq_false_iff, beq_eq_false_iff_ne]
  exact ⟨⟨⟨⟨⟨hne 9 (by omega), hne 10 (by omega)⟩, hne 11 (by omega)⟩, hne 12 (by omega)⟩, hne 13 (by omega)⟩, hne 32 (by omega)⟩

theorem cut_fields : ∀ (l : List Int) (cur : List UInt8), cut cur l = Lib.fieldsGo cur (l.map fun c => UInt8.ofNat (sml c).toNat)
  | [], cur => rfl
  | c :: l, cur => by
    rw [List.map_cons, cut, Lib.fieldsGo]
    by_cases h : ltr c = 0
    · have h32 : Lib.isSp (UInt8.ofNat (Int.toNat 32)) = true := by decide
      rw [if_pos h, sml_no h, cut_fields l [], h32]
      rfl
    · obtain ⟨e, hb⟩ := sml_yes h
      rw [if_neg h, if_neg ?_, cut_fields l _, e]
      rw [sp_no (n := (sml c).toNat) (by omega)]
      decide

/-- The words of a text are those that are cut out of it, once each, rising. -/
theorem wd_cut (s : ByteArray) : wd s = mergedS ((cut [] (tb s)).map ofL) := by
  unfold wd low strOfNums Lib.fields
  rw [cut_fields]
  simp only [List.map_map]
  rfl

/-- So whatever rises and has just these is the list of words. -/
theorem wd_of {s : ByteArray} {m : List ByteArray} (hm : m.Pairwise ltS) (h : ∀ x, x ∈ m ↔ x ∈ (cut [] (tb s)).map ofL) : m = wd s := by
  rw [wd_cut]
  exact mergedS_ext hm h
end Go.Proofs.YtkncboinfcnklabGreatDoor.Mth

namespace Go.Proofs.YtkncboinfcnklabGreatDoor.Mth
open Go.RowKit Go.Proofs.YtkncboinfcnklabGreatDoor

/-! ### reading, by the document's way -/
end Go.Proofs.YtkncboinfcnklabGreatDoor.Mth

namespace Go.Proofs.YtkncboinfcnklabGreatDoor.Mth

/-! ### something put into a rising list, looked for from the beginning -/
section
variable {α : Type} {lt : α → α → Prop} [DecidableRel lt]

end
end Go.Proofs.YtkncboinfcnklabGreatDoor.Mth


namespace Go.Proofs.YtkncboinfcnklabGreatDoor
open Go.RowKit Go.Deep Go.Proofs.YtkncboinfcnklabGreatDoor.Mth

theorem rd_at {w : World} {a : Option Addr} {n c : Nat} {l : List ByteArray} (h : Rd w (.slice a n c) l) (j : Nat) (hj : j < l.length) : ∃ b o, a = some ⟨b, o, none⟩ ∧ b < w.heap.size ∧ w.cell? ⟨b, o + j, none⟩ = some (.string (l.getD j ByteArray.empty)) := by
  obtain ⟨a', c', e, hc, hm, hz, h⟩ := h
  injection e with e1 e2 e3
  rcases h with h | ⟨b, o, e4, h⟩
  · subst h; simp at hj
  · exact ⟨b, o, e1.trans e4, World.block_lt_of_cell? _ _ (h j hj), h j hj⟩

theorem eqS_false {x y : ByteArray} (h : y ≠ x) : (y.toList == x.toList) = false := by rw [eq_eq]; simpa using h
end Go.Proofs.YtkncboinfcnklabGreatDoor

namespace Go.Proofs.YtkncboinfcnklabGreatDoor
open Go.RowKit Go.Deep Go.Proofs.YtkncboinfcnklabGreatDoor.Mth

theorem idx_at (s : ByteArray) (k : Nat) (h : k < s.size) (w : World) : (Instr.index 9 (.string s) (.int .i64 (k : Int))).run Tryz.prog w = .ok (.int .u8 ((tb s).getD k 0)) w := by
  rw [run_index_string (P := Tryz.prog) w 9 s .i64 (k : Int) Tryz.underlying9, dif_pos ⟨by omega, by omega⟩, tb_get s k h]
  congr 3
  have hk : k < s.data.size := h
  simp [List.getD, Array.getElem?_eq_getElem hk]
  rfl

end Go.Proofs.YtkncboinfcnklabGreatDoor

namespace Go.Proofs.YtkncboinfcnklabGreatDoor
open Go.RowKit Go.Deep Go.Proofs.YtkncboinfcnklabGreatDoor.Mth

/-- The entries, up to one, that have a word. -/
def hasUp (l : List Ent) (x : ByteArray) (k : Nat) : List Int := ((List.range k).filter (fun i => memD x (wd (l.getD i e0).text))).map (fun i : Nat => (i : Int))

theorem filt1 {p : Nat → Bool} {k : Nat} : [k].filter p = if p k then [k] else [] := by
  cases h : p k <;> simp [List.filter, h]
theorem hasUp_no {l : List Ent} {x : ByteArray} {k : Nat} (h : memD x (wd (l.getD k e0).text) = false) : hasUp l x (k + 1) = hasUp l x k := by
  unfold hasUp
  rw [List.range_succ, List.filter_append, filt1, h, List.map_append]
  simp only [Bool.false_eq_true, if_false, List.map_nil, List.append_nil]
theorem hasUp_yes {l : List Ent} {x : ByteArray} {k : Nat} (h : memD x (wd (l.getD k e0).text) = true) : hasUp l x (k + 1) = hasUp l x k ++ [(k : Int)] := by
  unfold hasUp
  rw [List.range_succ, List.filter_append, filt1, h, List.map_append]
  simp only [if_true, List.map_cons, List.map_nil]
theorem hasUp_len (l : List Ent) (x : ByteArray) (k : Nat) : (hasUp l x k).length ≤ k := by
  unfold hasUp
  rw [List.length_map]
  exact Nat.le_trans (List.length_filter_le _ _) (by simp)

end Go.Proofs.YtkncboinfcnklabGreatDoor

namespace Go.Proofs.YtkncboinfcnklabGreatDoor
open Go.RowKit Go.Deep Go.Proofs.YtkncboinfcnklabGreatDoor.Mth

theorem slice_at (s : ByteArray) (i j : Nat) (hij : i ≤ j) (hj : j ≤ s.size) (w : World) : (Instr.slice 9 (.string s) (some (.int .i64 (i : Int))) (some (.int .i64 (j : Int))) none).run Tryz.prog w = .ok (.string (strOfNums (((tb s).drop i).take (j - i)))) w := by
  rw [run_slice_string (P := Tryz.prog) w 9 s .i64 .i64 (i : Int) (j : Int) Tryz.underlying9 (by omega) (by omega) (by omega)]
  congr 2
  apply bytes_ext
  rw [Int.toNat_natCast, Int.toNat_natCast, ByteArray.data_extract, Array.toList_extract, List.extract_eq_take_drop]
  have : strOfNums (((tb s).drop i).take (j - i)) = ofL ((s.data.toList.drop i).take (j - i)) := by
    unfold strOfNums tb ofL
    rw [← List.map_drop, ← List.map_take, List.map_map]
    congr 2
    conv => rhs; rw [← List.map_id ((s.data.toList.drop i).take (j - i))]
    apply List.map_congr_left
    intro u _
    simp
  rw [this, ofL_data]

theorem curE_drewN {w0 w : World} {v : Value} {l : List Ent} {n : Nat} (h : CurE w0 w v l) : CurE w0 (w.drewN n) v l := ⟨⟨h.1.os, h.1.tape, h.1.output, h.1.size, h.1.block⟩, h.2⟩

theorem step_own {P : Program} (w : World) {ops : Array Oper} {o : Oper} {a : Act} {K : Act → World → Prop} {Q : Exit → Act → World → Prop} {E : Prop} (hgd : o.guard = none) (s x : Operand) (t : TypeId)
    (ho : o.op = .call { callee := .builtin .append, args := #[s, x], argTypes := #[t, t] })
    (base : Nat) (e : TypeId) (i : TypeInfo) (z : Value) (size bytes : Nat) (ht : P.underlying t = some (.slice e)) (hi : P.info? e = some i) (hz : i.zero = some z)
    (hsize : i.size = size) (hby : i.bytes = bytes) (hzs : z.cells.size = size) (hsz : 0 < size)
    (v : Value) (n : Nat) (xs : List Value) (hs : a.eval s = v) (hown : w.ownsRow base e size v n xs)
    (ad : Addr) (m c : Nat) (news : List Value) (hx : a.eval x = .slice (some ad) m c) (hl : news.length = m * size) (hnews : ∀ j u, news[j]? = some u → w.cell? (ad.add j) = some u) (h1 : ∀ u ∈ news, u.oneCell' = true)
    (h63 : n + m ≤ maxLen) (hbytes : (n + m) * bytes ≤ 140737488355328) (hbase : base ≤ w.heap.size)
    (h : ∀ v' w', w'.ownsRow base e size v' (n + m) (xs ++ news) → w.grownBy w' v.ownBlock → K (a.put o.dst v') w') :
    if Region.wanted o (yielded ops a.tmps) = true then Oper.wp P o a w K Q else E := by
  have hw : Region.wanted o (yielded ops a.tmps) = true := by simp [Region.wanted, hgd]
  rw [if_pos hw]
  exact wp_append_own w s x t ho base e i z size bytes ht hi hz hsize hby hzs hsz v n xs hs hown ad m c news hx hl hnews h1 h63 hbytes hbase fun v' w' h2 h3 _ => h v' w' h2 h3

end Go.Proofs.YtkncboinfcnklabGreatDoor

namespace Go.Proofs.YtkncboinfcnklabGreatDoor
open Go.RowKit Go.Deep Go.Proofs.YtkncboinfcnklabGreatDoor.Mth

section
variable {P : Program} (w : World)

end

theorem own_set_other {w : World} {B : Nat} {e e' : TypeId} {sz : Nat} {v : Value} {n : Nat} {xs : List Value} {xb o : Nat} {C : Array Value} {fr : Nat × Nat} {y : Value} (h : w.ownsRow B e sz v n xs) (hx : w.heap[xb]? = some (Obj.cells C e' fr)) (hne : e' ≠ e) : (w.setCell ⟨xb, o, none⟩ y).ownsRow B e sz v n xs := by
  refine ⟨h.1, h.2.imp id ?_⟩
  rintro ⟨g, cap, cur, hv, h1, hg, h2⟩
  refine ⟨g, cap, cur, hv, h1, ?_, h2⟩
  rw [set_other (fun q => ?_)]
  · exact hg
  · subst q
    rw [hx] at hg
    injection hg with hg
    injection hg with _ hg _
    exact hne hg

/-- A cell of an owned row is written. -/
theorem own_store {w : World} {B : Nat} {e : TypeId} {sz : Nat} {g n cap : Nat} {xs : List Value} {i : Nat} {y : Value} (h : w.ownsRow B e sz (.slice (some ⟨g, 0, none⟩) n cap) n xs) (_hi : i < n * sz) : (w.setCell ⟨g, i, none⟩ y).ownsRow B e sz (.slice (some ⟨g, 0, none⟩) n cap) n (xs.set i y) := by
  rcases h.2 with ⟨q, _⟩ | ⟨g', cap', cur, hv, h1, hg, h2, h3, h4, h5⟩
  · cases q
  · cases hv
    refine ⟨by rw [List.length_set]; exact h.1, .inr ⟨g, cap, cur.setIfInBounds i y, rfl, h1, ?_, h2, h3, by rw [Array.size_setIfInBounds]; exact h4, ?_⟩⟩
    · simp [World.setCell, Array.getElem?_modify, hg]
    · rw [Array.toList_setIfInBounds, List.take_set, h5]
theorem own_at {w : World} {B : Nat} {e : TypeId} {sz : Nat} {g n cap : Nat} {xs : List Value} {i : Nat} (h : w.ownsRow B e sz (.slice (some ⟨g, 0, none⟩) n cap) n xs) (hi : i < n * sz) : (∃ y, w.cell? ⟨g, i, none⟩ = some y) ∧ w.frozen? ⟨g, i, none⟩ = false := by
  have hc := h.cells (g := g) rfl i (xs[i]'(by rw [h.1]; exact hi)) (by simp)
  rw [show (⟨g, 0, none⟩ : Addr).add i = ⟨g, i, none⟩ from by unfold Addr.add; split <;> simp_all] at hc
  refine ⟨⟨_, hc⟩, ?_⟩
  rcases h.2 with ⟨q, _⟩ | ⟨g', cap', cur, hv, h1, hg, _⟩
  · cases q
  · cases hv
    simp [World.frozen?, hg]
theorem own_ge {w : World} {B : Nat} {e : TypeId} {sz : Nat} {g n cap : Nat} {xs : List Value} (h : w.ownsRow B e sz (.slice (some ⟨g, 0, none⟩) n cap) n xs) : B ≤ g ∧ g < w.heap.size ∧ n ≤ cap ∧ cap ≤ maxLen ∧ ∃ C, w.heap[g]? = some (Obj.cells C e (0, 0)) := by
  rcases h.2 with ⟨q, _⟩ | ⟨g', cap', cur, hv, h1, hg, h2, h3, _⟩
  · cases q
  · cases hv
    exact ⟨h1, (Array.getElem?_eq_some_iff.1 hg).1, h2, h3, cur, hg⟩
end Go.Proofs.YtkncboinfcnklabGreatDoor

namespace Go.Proofs.YtkncboinfcnklabGreatDoor
open Go.RowKit Go.Deep Go.Proofs.YtkncboinfcnklabGreatDoor.Mth

theorem own_block {w : World} {B : Nat} {e : TypeId} {sz : Nat} {v : Value} {n : Nat} {xs : List Value} (h : w.ownsRow B e sz v n xs) {g : Nat} (hg : some g = v.ownBlock) : B ≤ g ∧ g < w.heap.size ∧ ∃ C, w.heap[g]? = some (Obj.cells C e (0, 0)) := by
  rcases h.2 with ⟨rfl, _⟩ | ⟨g', cap, cur, rfl, h1, h2, _⟩
  · simp [Value.ownBlock] at hg
  · simp [Value.ownBlock] at hg
    subst hg
    exact ⟨h1, (Array.getElem?_eq_some_iff.1 h2).1, cur, h2⟩

theorem own_slice {w : World} {B : Nat} {e : TypeId} {sz : Nat} {v : Value} {n : Nat} {xs : List Value} (h : w.ownsRow B e sz v n xs) : ∃ a c, v = .slice a n c ∧ n ≤ c ∧ c ≤ maxLen := by
  rcases h.2 with ⟨rfl, rfl⟩ | ⟨g, cap, cur, rfl, _, _, h1, h2, _⟩
  · exact ⟨none, 0, rfl, Nat.le_refl _, by unfold maxLen; omega⟩
  · exact ⟨_, cap, rfl, h1, h2⟩

theorem own_same {w w' : World} {B : Nat} {e : TypeId} {sz : Nat} {v : Value} {n : Nat} {xs : List Value} (h : w.ownsRow B e sz v n xs) (hs : ∀ g, some g = v.ownBlock → w'.heap[g]? = w.heap[g]?) : w'.ownsRow B e sz v n xs := by
  refine ⟨h.1, h.2.imp id ?_⟩
  rintro ⟨g, cap, cur, rfl, h1, hg, h2⟩
  exact ⟨g, cap, cur, rfl, h1, (hs g rfl).trans hg, h2⟩

/-- A block beside the row that was appended to. -/
theorem beside {W W2 : World} {tv : Value} {o : Obj} {g : Nat} {D : Obj} (h2 : (W.alloc o).grownBy W2 tv.ownBlock) (hg : W.heap[g]? = some D) (hne : some g ≠ tv.ownBlock) : W2.heap[g]? = some D := by
  have hlt := (Array.getElem?_eq_some_iff.1 hg).1
  rw [h2.block g (by simp; omega) hne, Mth.hAO W o hlt]
  exact hg

theorem cells_new (w : World) (cs : Array Value) (t : TypeId) (xs : List Value) (h : cs.toList = xs) : ∀ j u, xs[j]? = some u → (w.alloc (.cells cs t)).cell? ((⟨w.heap.size, 0, none⟩ : Addr).add j) = some u := by
  intro j u hj
  have hb : (w.alloc (.cells cs t)).heap[w.heap.size]? = some (.cells cs t (0, 0)) := by
    show (w.heap.push _)[w.heap.size]? = _
    rw [Array.getElem?_push, if_pos rfl]
  rw [show (⟨w.heap.size, 0, none⟩ : Addr).add j = ⟨w.heap.size, j, none⟩ from by unfold Addr.add; split <;> simp_all]
  simp only [World.cell?, hb]
  subst h
  simpa using hj

theorem cells_new2 (w : World) (b : Nat) (hb0 : b = w.heap.size) (cs : Array Value) (t : TypeId) (xs : List Value) (h : cs.toList = xs) : ∀ j u, xs[j]? = some u → (w.alloc (.cells cs t)).cell? ((⟨b, 0, none⟩ : Addr).add j) = some u := by
  subst hb0
  exact cells_new w cs t xs h

theorem cell_of {w : World} {b : Nat} {C : Array Value} {t : TypeId} {j : Nat} {u : Value} (h : w.heap[b]? = some (Obj.cells C t (0, 0))) (hu : C[j]? = some u) : w.cell? ⟨b, j, none⟩ = some u ∧ w.frozen? ⟨b, j, none⟩ = false := by
  constructor
  · simp only [World.cell?, h]; exact hu
  · simp [World.frozen?, h]
end Go.Proofs.YtkncboinfcnklabGreatDoor

namespace Go.Proofs.YtkncboinfcnklabGreatDoor
open Go.RowKit Go.Deep Go.Proofs.YtkncboinfcnklabGreatDoor.Mth

/-! ### a disk, as a value -/
structure Fl where
  name : ByteArray
  data : ByteArray
  safe : Nat
def fl0 : Fl := ⟨⟨#[]⟩, ⟨#[]⟩, 0⟩
def fC (f : Fl) : List Value := [.string f.name, .string f.data, .int .i64 (f.safe : Int)]
theorem fC_at : ∀ {l : List Fl} {j : Nat}, j < l.length → (l.flatMap fC)[j * 3]? = some (.string (l.getD j fl0).name) ∧ (l.flatMap fC)[j * 3 + 1]? = some (.string (l.getD j fl0).data) ∧ (l.flatMap fC)[j * 3 + 2]? = some (.int .i64 ((l.getD j fl0).safe : Int))
  | f :: l, 0, _ => by simp [fC]
  | f :: l, j + 1, h => by
    obtain ⟨a, b, c⟩ := fC_at (l := l) (j := j) (by simpa using h)
    rw [List.flatMap_cons]
    refine ⟨?_, ?_, ?_⟩
    · rw [List.getElem?_append_right (by simp [fC]; omega)]; simpa [fC, show (j + 1) * 3 - 3 = j * 3 by omega] using a
    · rw [List.getElem?_append_right (by simp [fC]; omega)]; simpa [fC, show (j + 1) * 3 + 1 - 3 = j * 3 + 1 by omega] using b
    · rw [List.getElem?_append_right (by simp [fC]; omega)]; simpa [fC, show (j + 1) * 3 + 2 - 3 = j * 3 + 2 by omega] using c

/-- What may be touched of the blocks that were there. -/
structure Tch (S : Nat → Prop) (w w' : World) : Prop where
  os : w'.os = w.os
  tape : w'.tape = w.tape
  output : w'.output = w.output
  size : w.heap.size ≤ w'.heap.size
  block : ∀ k, k < w.heap.size → ¬ S k → w'.heap[k]? = w.heap[k]?
theorem Tch.refl (S : Nat → Prop) (w : World) : Tch S w w := ⟨rfl, rfl, rfl, Nat.le_refl _, fun _ _ _ => rfl⟩
theorem tch_below {S : Nat → Prop} {w w' : World} (h : Below w.heap.size w w') : Tch S w w' := ⟨h.os, h.tape, h.output, h.size, fun k hk _ => h.block k hk⟩
theorem Tch.trans {S S' : Nat → Prop} {w w1 w2 : World} (h : Tch S w w1) (h2 : Tch S' w1 w2) (hs : ∀ k, k < w.heap.size → S' k → S k) : Tch S w w2 :=
  ⟨h2.os.trans h.os, h2.tape.trans h.tape, h2.output.trans h.output, Nat.le_trans h.size h2.size, fun k hk hn => (h2.block k (Nat.lt_of_lt_of_le hk h.size) (fun q => hn (hs k hk q))).trans (h.block k hk hn)⟩
theorem Tch.mono {S S' : Nat → Prop} {w w1 : World} (h : Tch S w w1) (hs : ∀ k, k < w.heap.size → S k → S' k) : Tch S' w w1 := ⟨h.os, h.tape, h.output, h.size, fun k hk hn => h.block k hk (fun q => hn (hs k hk q))⟩

/-- A disk at block b: its files, for how many steps it goes on. -/
structure St (T e : TypeId) (w : World) (B b : Nat) (fs : List Fl) (left : Int) (fv : Value) : Prop where
  blk : w.heap[b]? = some (Obj.cells #[fv, .int .i64 left] T (0, 0))
  own : w.ownsRow B e 3 fv fs.length (fs.flatMap fC)
  ge : B ≤ b

def ownD (b : Nat) (fv : Value) (k : Nat) : Prop := k = b ∨ some k = fv.ownBlock

/-- What a call leaves of a disk. -/
structure Stp (T e : TypeId) (B b : Nat) (w w' : World) (fv : Value) (fs' : List Fl) (left' : Int) (fv' : Value) : Prop where
  st : St T e w' B b fs' left' fv'
  tch : Tch (ownD b fv) w w'
  new : ∀ g, some g = fv'.ownBlock → some g = fv.ownBlock ∨ w.heap.size ≤ g

theorem St.lt {T e : TypeId} {w : World} {B b : Nat} {fs : List Fl} {left : Int} {fv : Value} (h : St T e w B b fs left fv) : b < w.heap.size := (Array.getElem?_eq_some_iff.1 h.blk).1
theorem St.same {T e : TypeId} {w w' : World} {B b : Nat} {fs : List Fl} {left : Int} {fv : Value} (h : St T e w B b fs left fv) (hs : ∀ g, ownD b fv g → w'.heap[g]? = w.heap[g]?) : St T e w' B b fs left fv :=
  ⟨(hs b (Or.inl rfl)).trans h.blk, own_same h.own (fun g hg => hs g (Or.inr hg)), h.ge⟩
theorem St.ownLt {T e : TypeId} {w : World} {B b : Nat} {fs : List Fl} {left : Int} {fv : Value} (h : St T e w B b fs left fv) {g : Nat} (hg : ownD b fv g) : g < w.heap.size := by
  rcases hg with rfl | hg
  · exact h.lt
  · exact (own_block h.own hg).2.1
theorem St.below {T e : TypeId} {w w' : World} {B b : Nat} {fs : List Fl} {left : Int} {fv : Value} (h : St T e w B b fs left fv) (hb : Below w.heap.size w w') : St T e w' B b fs left fv :=
  h.same fun g hg => hb.block g (h.ownLt hg)
theorem St.ne {T e : TypeId} {w : World} {B b : Nat} {fs : List Fl} {left : Int} {fv : Value} (h : St T e w B b fs left fv) (hT : T ≠ e) : some b ≠ fv.ownBlock := by
  intro q
  obtain ⟨_, _, D, hD⟩ := own_block h.own q
  rw [h.blk] at hD
  injection hD with hD
  injection hD with _ hD _
  exact hT hD

theorem Stp.refl {T e : TypeId} {w : World} {B b : Nat} {fs : List Fl} {left : Int} {fv : Value} (h : St T e w B b fs left fv) : Stp T e B b w w fv fs left fv := ⟨h, Tch.refl _ _, fun _ q => Or.inl q⟩
theorem Stp.trans {T e : TypeId} {B b : Nat} {w w1 w2 : World} {fv fv1 fv2 : Value} {fs1 fs2 : List Fl} {l1 l2 : Int} (h1 : Stp T e B b w w1 fv fs1 l1 fv1) (h2 : Stp T e B b w1 w2 fv1 fs2 l2 fv2) : Stp T e B b w w2 fv fs2 l2 fv2 := by
  refine ⟨h2.st, h1.tch.trans h2.tch (fun k hk q => ?_), fun g hg => ?_⟩
  · rcases q with q | q
    · exact Or.inl q
    · rcases h1.new k q with q | q
      · exact Or.inr q
      · omega
  · rcases h2.new g hg with q | q
    · exact h1.new g q
    · exact Or.inr (Nat.le_trans h1.tch.size q)
theorem Stp.below {T e : TypeId} {B b : Nat} {w w1 w2 : World} {fv fv1 : Value} {fs1 : List Fl} {l1 : Int} (h1 : Stp T e B b w w1 fv fs1 l1 fv1) (hb : Below w1.heap.size w1 w2) : Stp T e B b w w2 fv fs1 l1 fv1 :=
  ⟨h1.st.below hb, h1.tch.trans (tch_below (S := ownD b fv) hb) (fun _ _ q => q), h1.new⟩
theorem St.setLeft {T e : TypeId} {w : World} {B b : Nat} {fs : List Fl} {left l' : Int} {fv : Value} (h : St T e w B b fs left fv) (hT : T ≠ e) : Stp T e B b w (w.setCell ⟨b, 1, none⟩ (.int .i64 l')) fv fs l' fv := by
  refine ⟨⟨?_, own_set_other h.own h.blk hT, h.ge⟩, ⟨rfl, rfl, rfl, by simp, fun k _ hn => set_other (fun q => hn (Or.inl q))⟩, fun _ q => Or.inl q⟩
  simp [World.setCell, Array.getElem?_modify, h.blk]
theorem St.setFiles {T e : TypeId} {w w1 : World} {B b : Nat} {fs fs' : List Fl} {left : Int} {fv fv' : Value} (h : St T e w B b fs left fv) (hT : T ≠ e) (ho : w1.ownsRow B e 3 fv' fs'.length (fs'.flatMap fC)) (ht : Tch (fun k => some k = fv.ownBlock) w w1) (hn : ∀ g, some g = fv'.ownBlock → some g = fv.ownBlock ∨ w.heap.size ≤ g) : Stp T e B b w (w1.setCell ⟨b, 0, none⟩ fv') fv fs' left fv' := by
  have hb1 : w1.heap[b]? = some (Obj.cells #[fv, .int .i64 left] T (0, 0)) := (ht.block b h.lt (h.ne hT)).trans h.blk
  refine ⟨⟨?_, own_set_other ho hb1 hT, h.ge⟩, ⟨ht.os, ht.tape, ht.output, by have := ht.size; simpa using this, fun k hk hn => ?_⟩, hn⟩
  · simp [World.setCell, Array.getElem?_modify, hb1]
  · rw [set_other (fun q => hn (Or.inl q))]
    exact ht.block k hk (fun q => hn (Or.inr q))

def decL (l : Int) : Int := if 0 < l then l - 1 else l

set_option maxHeartbeats 1000000 in
theorem apiStep_any {w : World} {B b : Nat} {fs : List Fl} {left : Int} {fv : Value} (h : St 82 87 w B b fs left fv) (h1 : -1 ≤ left) (h2 : left < 9223372036854775808) :
    Calls Tryz.prog 103 #[.pointer (some ⟨b, 0, none⟩)] w fun e w' => e = .returned (.bool (decide (left ≠ 0))) ∧ Stp 82 87 B b w w' fv fs (decL left) fv := by
  obtain ⟨c1, f1⟩ := cell_of (j := 1) (u := .int .i64 left) h.blk rfl
  have HS := hide h
  clear h
  by_cases q : left = 0
  · subst q
    go_enter Tryz.func103, Tryz.ntmps103
    go_wp2
    go_ret
    exact ⟨rfl, Stp.refl HS.out⟩
  · by_cases q2 : 0 < left
    · have d1 : decide (left ≠ 0) = true := by simpa using q
      have d2 : decL left = left - 1 := if_pos q2
      rw [d1, d2]
      have q4 : (left == 0) = false := by simpa using q
      clear d1 d2
      go_enter Tryz.func103, Tryz.ntmps103
      go_wp2
      go_ret
      exact ⟨rfl, HS.out.setLeft (by decide)⟩
    · have d1 : decide (left ≠ 0) = true := by simpa using q
      have d2 : decL left = left := if_neg q2
      rw [d1, d2]
      have q4 : (left == 0) = false := by simpa using q
      clear d1 d2
      go_enter Tryz.func103, Tryz.ntmps103
      go_wp2
      go_ret
      exact ⟨rfl, Stp.refl HS.out⟩

end Go.Proofs.YtkncboinfcnklabGreatDoor

namespace Go.Proofs.YtkncboinfcnklabGreatDoor
open Go.RowKit Go.Deep Go.Proofs.YtkncboinfcnklabGreatDoor.Mth

/-- Where the file of a name stands. -/
def At (fs : List Fl) (x : ByteArray) (r : Int) : Prop := (r = -1 ∧ ∀ j, j < fs.length → (fs.getD j fl0).name ≠ x) ∨ ∃ i : Nat, i < fs.length ∧ r = i ∧ (fs.getD i fl0).name = x ∧ ∀ j, j < i → (fs.getD j fl0).name ≠ x

theorem own_some {w : World} {B : Nat} {e : TypeId} {sz : Nat} {a : Option Addr} {n c : Nat} {xs : List Value} (h : w.ownsRow B e sz (.slice a n c) n xs) (h0 : 0 < n) : ∃ g, a = some ⟨g, 0, none⟩ := by
  rcases h.2 with ⟨_, q2⟩ | ⟨g, cap, cur, q, _⟩
  · omega
  · injection q with q; exact ⟨g, q⟩
theorem own_fl {w : World} {B : Nat} {e : TypeId} {g n c : Nat} {fs : List Fl} (h : w.ownsRow B e 3 (.slice (some ⟨g, 0, none⟩) n c) n (fs.flatMap fC)) {k : Nat} (hn : fs.length = n) (hk : k < n) : w.cell? ⟨g, k * 3, none⟩ = some (.string (fs.getD k fl0).name) ∧ w.cell? ⟨g, k * 3 + 1, none⟩ = some (.string (fs.getD k fl0).data) ∧ w.cell? ⟨g, k * 3 + 2, none⟩ = some (.int .i64 ((fs.getD k fl0).safe : Int)) := by
  obtain ⟨h0, h1, h2⟩ := fC_at (l := fs) (j := k) (by omega)
  have hc := h.cells (g := g) rfl
  have e : ∀ i, (⟨g, 0, none⟩ : Addr).add i = ⟨g, i, none⟩ := fun i => by unfold Addr.add; split <;> simp_all
  refine ⟨?_, ?_, ?_⟩
  · have := hc _ _ h0; rwa [e] at this
  · have := hc _ _ h1; rwa [e] at this
  · have := hc _ _ h2; rwa [e] at this

set_option maxRecDepth 100000 in
set_option maxHeartbeats 1000000 in
theorem find_any {w : World} {B b : Nat} {fs : List Fl} {left : Int} {fv : Value} (h : St 82 87 w B b fs left fv) (x : ByteArray) :
    Calls Tryz.prog 79 #[.pointer (some ⟨b, 0, none⟩), .string x] w fun e w' => ∃ r : Int, e = .returned (.int .i64 r) ∧ At fs x r ∧ w' = w := by
  obtain ⟨a, c, rfl, hc, hm⟩ := own_slice h.own
  unfold maxLen at hm
  obtain ⟨c0, f0⟩ := cell_of (j := 0) (u := .slice a fs.length c) h.blk rfl
  have HS := hide h
  clear h
  generalize hn : fs.length = n at *
  have HN := hide hn
  clear hn
  go_enter Tryz.func79, Tryz.ntmps79
  go_wp2_with fail
  go_loop [11] (fun i => ∃ k : Nat, k ≤ n ∧ i = .int .i64 k ∧ ∀ j, j < k → (fs.getD j fl0).name ≠ x) (fun i => n - (intOf i).toNat)
  case atStart => exact ⟨0, Nat.zero_le _, rfl, fun j hj => absurd hj (Nat.not_lt_zero _)⟩
  case round =>
    obtain ⟨k, hk, rfl, hno⟩ := hrel
    have HNO := hide hno
    clear hno
    by_cases hlt : k < n
    · have ho := HS.out.own
      rw [HN.out] at ho
      obtain ⟨g, rfl⟩ := own_some ho (by omega)
      obtain ⟨d0, _, _⟩ := own_fl ho HN.out hlt
      clear ho
      by_cases hx : (fs.getD k fl0).name = x
      · have HX := hide hx
        rw [hx] at d0
        clear hx
        go_wp2
        go_ret
        exact ⟨k, rfl, Or.inr ⟨k, by rw [HN.out]; exact hlt, rfl, HX.out, HNO.out⟩, rfl⟩
      · have HX := hide hx
        generalize hy : (fs.getD k fl0).name = y at d0 hx
        have q := eqS_false hx
        clear hx hy
        go_wp2
        go_round
        case rel => exact ⟨k + 1, by omega, by go_num, fun j hj => by
          by_cases c : j = k
          · subst c; exact HX.out
          · exact HNO.out j (by omega)⟩
        case measure => simp [intOf]; omega
    · go_wp2
      go_ret
      exact ⟨-1, rfl, Or.inl ⟨rfl, fun j hj => HNO.out j (by rw [HN.out] at hj; omega)⟩, rfl⟩

/-- What others have of a disk. -/
def Ptr (T : TypeId) (w : World) (d b : Nat) : Prop := w.heap[d]? = some (Obj.cells #[.pointer (some ⟨b, 0, none⟩)] T (0, 0))

set_option maxHeartbeats 1000000 in
theorem stopped_any {w : World} {B b d : Nat} {fs : List Fl} {left : Int} {fv : Value} (h : St 82 87 w B b fs left fv) (hp : Ptr 104 w d b) :
    Calls Tryz.prog 60 #[.pointer (some ⟨d, 0, none⟩)] w fun e w' => e = .returned (.bool (left == 0)) ∧ w' = w := by
  obtain ⟨c1, f1⟩ := cell_of (j := 1) (u := .int .i64 left) h.blk rfl
  obtain ⟨c0, f0⟩ := cell_of (j := 0) (u := .pointer (some ⟨b, 0, none⟩)) hp rfl
  go_enter Tryz.func60, Tryz.ntmps60
  go_wp2
  go_ret
  exact ⟨rfl, rfl⟩

set_option maxHeartbeats 1000000 in
theorem read_any {w : World} {B b d : Nat} {fs : List Fl} {left : Int} {fv : Value} (h : St 82 87 w B b fs left fv) (hp : Ptr 104 w d b) (x : ByteArray) :
    Calls Tryz.prog 57 #[.pointer (some ⟨d, 0, none⟩), .string x] w fun e w' => ∃ r : Int, At fs x r ∧ e = .returned (.string (if r < 0 then ⟨#[]⟩ else (fs.getD r.toNat fl0).data)) ∧ w' = w := by
  obtain ⟨c0, f0⟩ := cell_of (j := 0) (u := .pointer (some ⟨b, 0, none⟩)) hp rfl
  have CF := hide (find_any h x)
  obtain ⟨a, c, rfl, hc, hm⟩ := own_slice h.own
  unfold maxLen at hm
  obtain ⟨c2, f2⟩ := cell_of (j := 0) (u := .slice a fs.length c) h.blk rfl
  have HS := hide h
  clear h hp
  go_enter Tryz.func57, Tryz.ntmps57
  go_wp2_with fail
  refine CF.out.mono ?_
  rintro e w1 ⟨r, rfl, hr, rfl⟩
  have HR := hide hr
  clear CF
  rcases hr with ⟨rfl, _⟩ | ⟨i, hi, rfl, _, _⟩
  · go_wp2
    go_ret
    exact ⟨-1, HR.out, rfl, rfl⟩
  · obtain ⟨g, rfl⟩ := own_some HS.out.own (by omega)
    obtain ⟨_, d1, _⟩ := own_fl HS.out.own rfl hi
    generalize hn : fs.length = n at *
    have HN := hide hn
    generalize hd : (fs.getD i fl0).data = y at d1
    have HD := hide hd
    clear hn hd
    go_wp2
    go_ret
    exact ⟨i, HR.out, by rw [if_neg (by omega), Int.toNat_natCast, HD.out]; rfl, rfl⟩

def stopL (l n : Int) : Int := if l = 0 then 0 else if n < 0 then -1 else n

set_option maxHeartbeats 1000000 in
theorem apiStop_any {w : World} {B b d : Nat} {fs : List Fl} {left : Int} {fv : Value} (h : St 82 87 w B b fs left fv) (hp : Ptr 85 w d b) (n : Int) :
    Calls Tryz.prog 15 #[.pointer (some ⟨d, 0, none⟩), .int .i64 n] w fun e w' => e = .returned (.tuple #[]) ∧ Stp 82 87 B b w w' fv fs (stopL left n) fv := by
  obtain ⟨c1, f1⟩ := cell_of (j := 1) (u := .int .i64 left) h.blk rfl
  obtain ⟨c0, f0⟩ := cell_of (j := 0) (u := .pointer (some ⟨b, 0, none⟩)) hp rfl
  have HS := hide h
  clear h hp
  by_cases q : left = 0
  · subst q
    go_enter Tryz.func15, Tryz.ntmps15
    go_wp2
    go_end0
    exact ⟨rfl, Stp.refl HS.out⟩
  · have q4 : (left == 0) = false := by simpa using q
    by_cases q2 : n < 0
    · have e1 : max (-1) n = stopL left n := by unfold stopL; rw [if_neg q, if_pos q2]; omega
      generalize stopL left n = l' at *
      go_enter Tryz.func15, Tryz.ntmps15
      go_wp2
      go_end0
      first
        | (rw [e1]; exact ⟨rfl, HS.out.setLeft (by decide)⟩)
        | (refine ⟨rfl, ?_⟩; rw [← e1]; exact HS.out.setLeft (by decide))
    · have e1 : max (-1) n = stopL left n := by unfold stopL; rw [if_neg q, if_neg q2]; omega
      generalize stopL left n = l' at *
      go_enter Tryz.func15, Tryz.ntmps15
      go_wp2
      go_end0
      first
        | (rw [e1]; exact ⟨rfl, HS.out.setLeft (by decide)⟩)
        | (refine ⟨rfl, ?_⟩; rw [← e1]; exact HS.out.setLeft (by decide))

end Go.Proofs.YtkncboinfcnklabGreatDoor

namespace Go.Proofs.YtkncboinfcnklabGreatDoor
open Go.RowKit Go.Deep Go.Proofs.YtkncboinfcnklabGreatDoor.Mth

theorem Tryz.info87 : (Tryz.prog.info? 87).map (fun i => (i.zero, i.size, i.bytes)) = some (some (.agg #[.string ⟨#[]⟩, .string ⟨#[]⟩, .int .i64 0]), 3, 40) := by kernel_rfl
/-- All files but that of a name. -/
def wo (x : ByteArray) (fs : List Fl) : List Fl := fs.filter (fun f => !decide (f.name = x))
theorem wo_snoc_no {x : ByteArray} {l : List Fl} {f : Fl} (h : f.name ≠ x) : wo x (l ++ [f]) = wo x l ++ [f] := by simp [wo, h]
theorem wo_snoc_yes {x : ByteArray} {l : List Fl} {f : Fl} (h : f.name = x) : wo x (l ++ [f]) = wo x l := by simp [wo, h]
theorem wo_len (x : ByteArray) (l : List Fl) : (wo x l).length ≤ l.length := List.length_filter_le _ _
theorem take_snoc {α : Type} {l : List α} {k : Nat} (h : k < l.length) (z : α) : l.take (k + 1) = l.take k ++ [l.getD k z] := by
  rw [List.take_add_one, List.getElem?_eq_getElem h]
  simp [List.getD, h]

/-- A list of files of the call's own. -/
def CurF (e : TypeId) (w0 w : World) (v : Value) (l : List Fl) : Prop := Below w0.heap.size w0 w ∧ w.ownsRow w0.heap.size e 3 v l.length (l.flatMap fC)
theorem CurF.alloc {e : TypeId} {w0 w : World} {v : Value} {l : List Fl} (h : CurF e w0 w v l) (o : Obj) : CurF e w0 (w.alloc o) v l := ⟨h.1.trans ((below_alloc w o).mono h.1.size), h.2.alloc o⟩
theorem curF_append {e : TypeId} {w0 w w2 : World} {v v2 : Value} {o : Obj} {l : List Fl} {f : Fl} (h : CurF e w0 w v l) (h2 : w2.ownsRow w0.heap.size e 3 v2 (l.length + 1) (l.flatMap fC ++ fC f)) (hg : (w.alloc o).grownBy w2 v.ownBlock) : CurF e w0 w2 v2 (l ++ [f]) := by
  refine ⟨?_, by simpa [List.flatMap_append] using h2⟩
  refine (h.1.trans ((below_alloc w o).mono h.1.size)).grown hg (by have := h.1.size; simp; omega) ?_
  intro k hk
  exact (h.2.lt k hk).1

set_option maxRecDepth 100000 in
set_option maxHeartbeats 1000000 in
theorem apiWithout_any {w : World} {B b : Nat} {fs : List Fl} {left : Int} {fv : Value} (h : St 82 87 w B b fs left fv) (x : ByteArray) (hl : fs.length ≤ 4194304) :
    Calls Tryz.prog 104 #[.pointer (some ⟨b, 0, none⟩), .string x] w fun e w' => ∃ v, e = .returned v ∧ CurF 87 w w' v (wo x fs) := by
  obtain ⟨i0, hi0, hz0, hz1, hz2⟩ := info_parts Tryz.info87
  obtain ⟨a, c, rfl, hc, hm⟩ := own_slice h.own
  unfold maxLen at hm
  obtain ⟨c0, f0⟩ := cell_of (j := 0) (u := .slice a fs.length c) h.blk rfl
  have HS := hide h
  clear h
  generalize hn : fs.length = n at *
  have HN := hide hn
  clear hn
  go_enter Tryz.func104, Tryz.ntmps104
  go_wp2_with fail
  go_loopw [5, 13] (fun lv i wr => ∃ k : Nat, k ≤ n ∧ i = .int .i64 k ∧ CurF 87 w wr lv (wo x (fs.take k))) (fun _ i _ => n - (intOf i).toNat)
  case atStart => exact ⟨0, Nat.zero_le _, rfl, ⟨Below.refl _ _, World.ownsRow_nil _ _ _ _⟩⟩
  case round =>
    obtain ⟨k, hk, rfl, hcur⟩ := hrel
    have HC := hide hcur
    clear hcur
    by_cases hlt : k < n
    · have ho := (HS.out.below HC.out.1).own
      rw [HN.out] at ho
      obtain ⟨g, rfl⟩ := own_some ho (by omega)
      obtain ⟨d0, d1, d2⟩ := own_fl ho HN.out hlt
      clear ho c0
      have HTK := hide (take_snoc (by rw [HN.out]; exact hlt : k < fs.length) fl0)
      have hml : (wo x (fs.take k)).length ≤ k := Nat.le_trans (wo_len _ _) (by rw [List.length_take]; omega)
      obtain ⟨f, hf⟩ : ∃ f, f = fs.getD k fl0 := ⟨_, rfl⟩
      rw [← hf] at d0 d1 d2
      have HTK2 : Hid (fs.take (k + 1) = fs.take k ++ [f]) := by rw [hf]; exact HTK.out
      clear HTK hf
      obtain ⟨nm, dt, sf⟩ := f
      simp only at d0 d1 d2
      have hsz := HC.out.1.size
      by_cases hx : nm = x
      · subst hx
        have HW : Hid (CurF 87 w (wr.alloc (Obj.cells #[.string nm, .string dt, .int .i64 (sf : Int)] 87)) u5 (wo nm (fs.take (k + 1)))) := by
          show CurF _ _ _ _ _
          rw [HTK2.out, wo_snoc_yes (f := ⟨nm, dt, sf⟩) rfl]
          exact HC.out.alloc _
        go_wp2
        go_roundw
        case rel => exact ⟨k + 1, by omega, by go_num, HW.out⟩
        case measure => simp [intOf]; omega
      · have q := eqS_false hx
        have HW : Hid (wo x (fs.take (k + 1)) = wo x (fs.take k) ++ [⟨nm, dt, sf⟩]) := by
          show _ = _
          rw [HTK2.out, wo_snoc_no (f := ⟨nm, dt, sf⟩) hx]
        have HC1 := hide (HC.out.alloc (Obj.cells #[.string nm, .string dt, .int .i64 (sf : Int)] 87))
        generalize wo x (fs.take k) = m at *
        go_wp2_with (first | (at_builtin; refine wpList_append_own _ rfl _ _ 80 rfl w.heap.size 87 i0 (.agg #[.string ⟨#[]⟩, .string ⟨#[]⟩, .int .i64 0]) 3 40 Tryz.underlying80 hi0 hz0 hz1 hz2 rfl (by decide) _ _ _ rfl (HC1.out.2.alloc _) ⟨_, 0, none⟩ 1 1 [.string nm, .string dt, .int .i64 (sf : Int)] rfl rfl (cells_new2 _ _ (by simp) _ _ _ rfl) (by intro u hu; simp at hu; rcases hu with rfl | rfl | rfl <;> rfl) (by unfold maxLen; omega) (by omega) (by simp; omega) ?_; intro v4 w4 hown4 hgrow4 _; have HC4 := hide (curF_append (f := ⟨nm, dt, sf⟩) HC1.out hown4 hgrow4); clear hown4 hgrow4))
        go_roundw
        case rel => exact ⟨k + 1, by omega, by go_num, by rw [HW.out]; exact HC4.out⟩
        case measure => simp [intOf]; omega
    · have hke : k = n := by omega
      subst hke
      have HF : Hid (fs.take k = fs) := List.take_of_length_le (by rw [HN.out]; exact Nat.le_refl _)
      go_wp2
      go_ret
      exact ⟨_, rfl, by have := HC.out; rwa [HF.out] at this⟩
end Go.Proofs.YtkncboinfcnklabGreatDoor
