import Derived.Test.YtkncboinfcnklabGreatDoorQ3
import Derived.Deep.RegionHeld3
import Derived.Test.YtkncboinfcnklabGreatDoorProg
import Derived.Test.YtkncboinfcnklabGreatDoorQ1
import Derived.WalkKit
import Derived.WalkSpells
import Derived.WalkLawsBesides
import Derived.Deep.LoopGhost
import Derived.Deep.QuietTactic
import Derived.BigQuiet
import Derived.Deep.DeepFit
import Derived.Outline
namespace Go.Proofs.YtkncboinfcnklabGreatDoor
open Go.RowKit Go.Deep Go.Proofs.YtkncboinfcnklabGreatDoor.Mth

theorem own_base {w : World} {B B' : Nat} {e : TypeId} {sz : Nat} {v : Value} {n : Nat} {xs : List Value} (h : w.ownsRow B' e sz v n xs) (hB : B ≤ B') : w.ownsRow B e sz v n xs := by
  refine ⟨h.1, h.2.imp id ?_⟩
  rintro ⟨g, cap, cur, hv, h1, h2⟩
  exact ⟨g, cap, cur, hv, Nat.le_trans hB h1, h2⟩
theorem CurF.pre {e : TypeId} {w wA w1 : World} {v : Value} {l : List Fl} (hb : Below w.heap.size w wA) (h : CurF e wA w1 v l) : CurF e w w1 v l := ⟨hb.trans (h.1.mono hb.size), own_base h.2 hb.size⟩
theorem St.setFresh {T e : TypeId} {w w1 : World} {B b : Nat} {fs fs' : List Fl} {left : Int} {fv v : Value} (h : St T e w B b fs left fv) (hT : T ≠ e) (hB : B ≤ w.heap.size) (hc : CurF e w w1 v fs') : Stp T e B b w (w1.setCell ⟨b, 0, none⟩ v) fv fs' left v :=
  h.setFiles hT (own_base hc.2 hB) (tch_below hc.1) (fun _ hg => Or.inr (own_block hc.2 hg).1)

theorem setCell_blk {w : World} {b j : Nat} {C : Array Value} {t : TypeId} {v : Value} (h : w.heap[b]? = some (Obj.cells C t (0, 0))) : (w.setCell ⟨b, j, none⟩ v).heap[b]? = some (Obj.cells (C.setIfInBounds j v) t (0, 0)) := by
  simp [World.setCell, Array.getElem?_modify, h]

end Go.Proofs.YtkncboinfcnklabGreatDoor

namespace Go.Proofs.YtkncboinfcnklabGreatDoor
open Go.RowKit Go.Deep Go.Proofs.YtkncboinfcnklabGreatDoor.Mth

/-- The file at a place; below 0: none. -/
def flAt (fs : List Fl) (r : Int) : Fl := if r < 0 then fl0 else fs.getD r.toNat fl0

theorem below_set {w w1 : World} {nb j : Nat} {v : Value} (h : Below w.heap.size w w1) (hn : w.heap.size ≤ nb) : Below w.heap.size w (w1.setCell ⟨nb, j, none⟩ v) :=
  ⟨h.os, h.tape, h.output, by have := h.size; simpa using this, fun k hk => by rw [set_other (by omega)]; exact h.block k hk⟩

theorem new_blk (w : World) (cs : Array Value) (t : TypeId) : (w.alloc (Obj.cells cs t)).heap[w.heap.size]? = some (Obj.cells cs t (0, 0)) := by
  show (w.heap.push _)[w.heap.size]? = _
  rw [Array.getElem?_push, if_pos rfl]
theorem old_blk {w : World} {g : Nat} {D : Obj} (o : Obj) (h : w.heap[g]? = some D) : (w.alloc o).heap[g]? = some D := by
  rw [Mth.hAO w o (Array.getElem?_eq_some_iff.1 h).1]; exact h

set_option maxHeartbeats 1000000 in
theorem apiNew_any (w : World) (B : Nat) (hB : B ≤ w.heap.size) : Calls Tryz.prog 22 #[] w fun e w' => ∃ d h b, e = .returned (.tuple #[.pointer (some ⟨d, 0, none⟩), .pointer (some ⟨h, 0, none⟩)]) ∧ w.heap.size ≤ b ∧ w.heap.size ≤ d ∧ w.heap.size ≤ h ∧ Below w.heap.size w w' ∧ St 82 87 w' B b [] (-1) (.slice none 0 0) ∧ Ptr 104 w' d b ∧ Ptr 85 w' h b := by
  have k1 := new_blk w #[.slice none 0 0, .int .i64 (-1)] 82
  have hb1 := below_alloc w (Obj.cells #[.slice none 0 0, .int .i64 (-1)] 82)
  have k2 := new_blk (w.alloc (Obj.cells #[.slice none 0 0, .int .i64 (-1)] 82)) #[.pointer (some ⟨w.heap.size, 0, none⟩)] 104
  have hb2 := below_alloc (w.alloc (Obj.cells #[.slice none 0 0, .int .i64 (-1)] 82)) (Obj.cells #[.pointer (some ⟨w.heap.size, 0, none⟩)] 104)
  have k3 := new_blk ((w.alloc (Obj.cells #[.slice none 0 0, .int .i64 (-1)] 82)).alloc (Obj.cells #[.pointer (some ⟨w.heap.size, 0, none⟩)] 104)) #[.pointer (some ⟨w.heap.size, 0, none⟩)] 85
  have hb3 := below_alloc ((w.alloc (Obj.cells #[.slice none 0 0, .int .i64 (-1)] 82)).alloc (Obj.cells #[.pointer (some ⟨w.heap.size, 0, none⟩)] 104)) (Obj.cells #[.pointer (some ⟨w.heap.size, 0, none⟩)] 85)
  have K1 := hide (old_blk (Obj.cells #[.pointer (some ⟨w.heap.size, 0, none⟩)] 85) (old_blk (Obj.cells #[.pointer (some ⟨w.heap.size, 0, none⟩)] 104) k1))
  have K2 := hide (old_blk (Obj.cells #[.pointer (some ⟨w.heap.size, 0, none⟩)] 85) k2)
  have K3 := hide k3
  have HB := hide ((hb1.trans (hb2.mono hb1.size)).trans (hb3.mono (hb1.trans (hb2.mono hb1.size)).size))
  clear k1 k2 k3 hb1 hb2 hb3
  go_enter Tryz.func22, Tryz.ntmps22
  go_wp2
  go_ret2
  exact ⟨_, _, _, rfl, Nat.le_refl _, by first | omega | simp, by first | omega | (simp; omega), HB.out, ⟨K1.out, World.ownsRow_nil _ _ _ _, hB⟩, by have := K2.out; simpa [Ptr] using this, by have := K3.out; simpa [Ptr] using this⟩
end Go.Proofs.YtkncboinfcnklabGreatDoor

namespace Go.Proofs.YtkncboinfcnklabGreatDoor
open Go.RowKit Go.Deep Go.Proofs.YtkncboinfcnklabGreatDoor.Mth

theorem at_one {fs : List Fl} {x : ByteArray} {r r' : Int} (h : At fs x r) (h' : At fs x r') : r = r' := by
  rcases h with ⟨rfl, h⟩ | ⟨i, hi, rfl, hn, h⟩
  · rcases h' with ⟨rfl, _⟩ | ⟨j, hj, rfl, hm, _⟩
    · rfl
    · exact absurd hm (h j hj)
  · rcases h' with ⟨rfl, h'⟩ | ⟨j, hj, rfl, hm, h'⟩
    · exact absurd hn (h' i hi)
    · rcases Nat.lt_trichotomy i j with q | q | q
      · exact absurd hn (h' i q)
      · rw [q]
      · exact absurd hm (h j q)
theorem plus_at (a b : ByteArray) (w : World) (h : a.size + b.size ≤ 70368744177664) : (Op.stringOp .add a b).run Tryz.prog w = .ok (.string (a ++ b)) w := run_string_add_sum (P := Tryz.prog) w _ _ (by omega)

/-! ### the document's disk: its steps -/
end Go.Proofs.YtkncboinfcnklabGreatDoor

namespace Go.Proofs.YtkncboinfcnklabGreatDoor
open Go.RowKit Go.Deep Go.Proofs.YtkncboinfcnklabGreatDoor.Mth

theorem step_own_at {P : Program} (w : World) {ops : Array Oper} {o : Oper} {a : Act} {K : Act → World → Prop} {Q : Exit → Act → World → Prop} {E : Prop} (hgd : o.guard = none) (s x : Operand) (t : TypeId)
    (ho : o.op = .call { callee := .builtin .append, args := #[s, x], argTypes := #[t, t] })
    (base : Nat) (e : TypeId) (i : TypeInfo) (z : Value) (size bytes : Nat) (ht : P.underlying t = some (.slice e)) (hi : P.info? e = some i) (hz : i.zero = some z)
    (hsize : i.size = size) (hby : i.bytes = bytes) (hzs : z.cells.size = size) (hsz : 0 < size)
    (v : Value) (n : Nat) (xs : List Value) (hs : a.eval s = v) (hown : w.ownsRow base e size v n xs)
    (ad : Addr) (m c : Nat) (news : List Value) (hx : a.eval x = .slice (some ad) m c) (hl : news.length = m * size) (hnews : ∀ j u, news[j]? = some u → w.cell? (ad.add j) = some u) (h1 : ∀ u ∈ news, u.oneCell' = true)
    (h63 : n + m ≤ maxLen) (hbytes : (n + m) * bytes ≤ 140737488355328) (hbase : base ≤ w.heap.size)
    (h : ∀ v' w', w'.ownsRow base e size v' (n + m) (xs ++ news) → w.grownBy w' v.ownBlock → (v'.ownBlock = v.ownBlock ∨ v'.ownBlock = some w.heap.size) → K (a.put o.dst v') w') :
    if Region.wanted o (yielded ops a.tmps) = true then Oper.wp P o a w K Q else E := by
  have hw : Region.wanted o (yielded ops a.tmps) = true := by simp [Region.wanted, hgd]
  rw [if_pos hw]
  obtain ⟨v', w', hr, h2, h3, h4, h5⟩ := run_append_own_at (P := P) w base t o.type e i z size bytes ht hi hz hsize hby hzs hsz v n xs hown ad m c news hl hnews h1 h63 hbytes hbase
  unfold Oper.wp execOp
  simp only [ho, resolve, invoke, builtin, Sem.run_bind, Sem.run_pure, Result.andThen_ok, List.map_toArray, List.map_cons, List.map_nil, hs, hx, hr]
  exact h v' w' h2 h3 h5

theorem St.appended {T e : TypeId} {W W5 : World} {B b : Nat} {fs : List Fl} {left : Int} {fv v5 : Value} {f : Fl} {o : Obj} (h : St T e W B b fs left fv) (hT : T ≠ e) (o5 : W5.ownsRow B e 3 v5 (fs.length + 1) (fs.flatMap fC ++ fC f)) (g : (W.alloc o).grownBy W5 fv.ownBlock) (h5 : v5.ownBlock = fv.ownBlock ∨ v5.ownBlock = some (W.alloc o).heap.size) : Stp T e B b W (W5.setCell ⟨b, 0, none⟩ v5) fv (fs ++ [f]) left v5 := by
  refine h.setFiles hT (by simpa [List.flatMap_append] using o5) ⟨g.os, g.tape, g.output, by have := g.size; simp at this; omega, fun k hk hn => ?_⟩ (fun k hk => ?_)
  · rw [g.block k (by simp; omega) hn, Mth.hAO W o (r := k) hk]
  · rcases h5 with q | q
    · rw [q] at hk; exact Or.inl hk
    · rw [q] at hk; injection hk with hk; right; rw [hk]; simp

theorem Ptr.keep {T T' e : TypeId} {w w' : World} {B b d : Nat} {fs : List Fl} {left : Int} {fv : Value} (hp : Ptr T w d b) (h : St T' e w B b fs left fv) (ht : Tch (ownD b fv) w w') (h1 : T ≠ T') (h2 : T ≠ e) : Ptr T w' d b := by
  refine (ht.block d (Array.getElem?_eq_some_iff.1 hp).1 (fun q => ?_)).trans hp
  rcases q with q | q
  · subst q
    have := h.blk
    rw [hp] at this
    injection this with this
    injection this with _ this _
    exact h1 this
  · obtain ⟨_, _, D, hD⟩ := own_block h.own q
    rw [hp] at hD
    injection hD with hD
    injection hD with _ hD _
    exact h2 hD
theorem Ptr.below {T : TypeId} {w w' : World} {d b : Nat} (hp : Ptr T w d b) (hb : Below w.heap.size w w') : Ptr T w' d b := (hb.block d (Array.getElem?_eq_some_iff.1 hp).1).trans hp

theorem fC_set1 : ∀ {l : List Fl} {k : Nat} (y : ByteArray), k < l.length → (l.flatMap fC).set (k * 3 + 1) (.string y) = (l.set k ⟨(l.getD k fl0).name, y, (l.getD k fl0).safe⟩).flatMap fC
  | f :: l, 0, y, _ => by simp [fC]
  | f :: l, k + 1, y, h => by
    have := fC_set1 (l := l) (k := k) y (by simpa using h)
    rw [List.flatMap_cons, List.set_append_right _ _ (by simp [fC]; omega), List.set_cons_succ, List.flatMap_cons, ← show (k * 3 + 1) = (k + 1) * 3 + 1 - (fC f).length by simp [fC]; omega, this]
    simp
theorem fC_set2 : ∀ {l : List Fl} {k : Nat} (y : Nat), k < l.length → (l.flatMap fC).set (k * 3 + 2) (.int .i64 (y : Int)) = (l.set k ⟨(l.getD k fl0).name, (l.getD k fl0).data, y⟩).flatMap fC
  | f :: l, 0, y, _ => by simp [fC]
  | f :: l, k + 1, y, h => by
    have := fC_set2 (l := l) (k := k) y (by simpa using h)
    rw [List.flatMap_cons, List.set_append_right _ _ (by simp [fC]; omega), List.set_cons_succ, List.flatMap_cons, ← show (k * 3 + 2) = (k + 1) * 3 + 2 - (fC f).length by simp [fC]; omega, this]
    simp

theorem St.store {T e : TypeId} {w : World} {B b g n c : Nat} {fs fs' : List Fl} {left : Int} {i : Nat} {y : Value} (h : St T e w B b fs left (.slice (some ⟨g, 0, none⟩) n c)) (hT : T ≠ e) (hn : fs.length = n) (hi : i < n * 3) (hf : fs'.length = n) (he : (fs.flatMap fC).set i y = fs'.flatMap fC) : Stp T e B b w (w.setCell ⟨g, i, none⟩ y) (.slice (some ⟨g, 0, none⟩) n c) fs' left (.slice (some ⟨g, 0, none⟩) n c) := by
  have hne : b ≠ g := fun q => h.ne hT (by simp [Value.ownBlock, q])
  have ho := h.own
  rw [hn] at ho
  have := own_store (y := y) ho hi
  rw [he] at this
  exact ⟨⟨by rw [set_other hne]; exact h.blk, by rw [hf]; exact this, h.ge⟩, ⟨rfl, rfl, rfl, by simp, fun k _ hk => set_other (fun q => hk (Or.inr (by simp [Value.ownBlock, q])))⟩, fun _ q => Or.inl q⟩

def setD (fs : List Fl) (k : Nat) (y : ByteArray) : List Fl := fs.set k ⟨(fs.getD k fl0).name, y, (fs.getD k fl0).safe⟩
def aApp (fs : List Fl) (x t : ByteArray) (r : Int) : List Fl := if r < 0 then fs ++ [⟨x, ⟨#[]⟩ ++ t, 0⟩] else setD fs r.toNat ((fs.getD r.toNat fl0).data ++ t)

theorem setD_last (fs : List Fl) (x y : ByteArray) : setD (fs ++ [⟨x, ⟨#[]⟩, 0⟩]) fs.length y = fs ++ [⟨x, y, 0⟩] := by
  unfold setD
  rw [List.set_append_right _ _ (Nat.le_refl _)]
  simp [List.getD]

set_option maxHeartbeats 1000000 in
theorem apiAppend_no {w : World} {B b d : Nat} {fs : List Fl} {fv : Value} (h : St 82 87 w B b fs 0 fv) (hp : Ptr 104 w d b) (x t : ByteArray) :
    Calls Tryz.prog 84 #[.pointer (some ⟨d, 0, none⟩), .string x, .string t] w fun e w' => e = .returned (.bool false) ∧ Stp 82 87 B b w w' fv fs 0 fv := by
  have CS := hide (apiStep_any h (by omega) (by omega))
  rw [show decide ((0 : Int) ≠ 0) = false from by decide, show decL 0 = 0 from rfl] at CS
  obtain ⟨p0, _⟩ := cell_of (j := 0) (u := .pointer (some ⟨b, 0, none⟩)) hp rfl
  clear h hp
  go_enter Tryz.func84, Tryz.ntmps84
  go_wp2_with fail
  refine CS.out.mono ?_
  rintro e w1 ⟨rfl, hs⟩
  have HT := hide hs
  clear hs CS
  go_wp2
  go_ret
  exact ⟨rfl, HT.out⟩

set_option maxRecDepth 100000 in
set_option maxHeartbeats 2000000 in
theorem apiAppend_yes {w : World} {B b d : Nat} {fs : List Fl} {left : Int} {fv : Value} (h : St 82 87 w B b fs left fv) (hp : Ptr 104 w d b) (hB : B ≤ w.heap.size) (h1 : -1 ≤ left) (h2 : left < 9223372036854775808) (q : left ≠ 0) (hl : fs.length ≤ 4194304) (x t : ByteArray) (r : Int) (hr : At fs x r) (hs : (flAt fs r).data.size + t.size ≤ 70368744177664) :
    Calls Tryz.prog 84 #[.pointer (some ⟨d, 0, none⟩), .string x, .string t] w fun e w' => e = .returned (.bool true) ∧ ∃ fv', Stp 82 87 B b w w' fv (aApp fs x t r) (decL left) fv' := by
  obtain ⟨i0, hi0, hz0, hz1, hz2⟩ := info_parts Tryz.info87
  have CS := hide (apiStep_any h h1 h2)
  rw [decide_eq_true q] at CS
  obtain ⟨p0, _⟩ := cell_of (j := 0) (u := .pointer (some ⟨b, 0, none⟩)) hp rfl
  have HR := hide hr
  have HP := hide hp
  have HS := hide h
  generalize decL left = l1 at *
  generalize hfs : aApp fs x t r = fs' at *
  have HFS := hide hfs
  have HSZ := hide hs
  clear h h1 h2 q hfs hr hs hp
  go_enter Tryz.func84, Tryz.ntmps84
  go_wp2_with fail
  refine CS.out.mono ?_
  rintro e w1 ⟨rfl, hs⟩
  have HT := hide hs
  have HP1 := hide (HP.out.keep HS.out hs.tch (by decide) (by decide))
  have CF := hide (find_any hs.st x)
  obtain ⟨p1, _⟩ := cell_of (j := 0) (u := .pointer (some ⟨b, 0, none⟩)) HP1.out rfl
  clear hs CS p0 HP HS
  go_wp2_with fail
  refine CF.out.mono ?_
  rintro e w2 ⟨r', rfl, hr, rfl⟩
  have hrr := at_one HR.out hr
  subst hrr
  have hsz2 := HT.out.tch.size
  clear CF
  obtain ⟨a, c, rfl, hc, hm⟩ := own_slice HT.out.st.own
  unfold maxLen at hm
  obtain ⟨c0, f0⟩ := cell_of (j := 0) (u := .slice a fs.length c) HT.out.st.blk rfl
  rcases hr with ⟨rfl, _⟩ | ⟨i, hi, rfl, _, _⟩
  · have HNB : Hid (some b ≠ (Value.slice a fs.length c).ownBlock) := HT.out.st.ne (by decide)
    have HND : Hid (some d ≠ (Value.slice a fs.length c).ownBlock) := by
      intro q
      obtain ⟨_, _, D, hD⟩ := own_block HT.out.st.own q
      rw [HP1.out] at hD
      injection hD with hD
      injection hD with _ hD _
      exact absurd hD (by decide)
    have c1 : (w2.alloc (Obj.cells #[.string x, .string ⟨#[]⟩, .int .i64 0] 87)).cell? ⟨b, 0, none⟩ = some (.slice a fs.length c) := ((below_alloc w2 _).cell (p := ⟨b, 0, none⟩) (World.block_lt_of_cell? _ _ c0)).trans c0
    have p2 : (w2.alloc (Obj.cells #[.string x, .string ⟨#[]⟩, .int .i64 0] 87)).cell? ⟨d, 0, none⟩ = some (.pointer (some ⟨b, 0, none⟩)) := ((below_alloc w2 _).cell (p := ⟨d, 0, none⟩) (World.block_lt_of_cell? _ _ p1)).trans p1
    have HFR : Hid (fs' = setD (fs ++ [⟨x, ⟨#[]⟩, 0⟩]) fs.length (⟨#[]⟩ ++ t)) := by
      show _ = _
      rw [setD_last, ← HFS.out]
      rfl
    have HDS : Hid ((ByteArray.size ⟨#[]⟩) + t.size ≤ 70368744177664) := HSZ.out
    have hadd := fun w => plus_at ⟨#[]⟩ t w HDS.out
    generalize hdd : (⟨#[]⟩ : ByteArray) ++ t = dd at *
    clear hdd HSZ HFS
    generalize hn : fs.length = n at *
    have HN := hide hn
    clear hn
    have HOW := HT.out.st.own
    rw [HN.out] at HOW
    have HOWN := hide HOW
    clear HOW
    go_wp2_with fail
    go_region_law (refine step_own_at _ rfl _ _ 80 rfl B 87 i0 (.agg #[.string ⟨#[]⟩, .string ⟨#[]⟩, .int .i64 0]) 3 40 Tryz.underlying80 hi0 hz0 hz1 hz2 rfl (by decide) _ _ _ rfl (by exact HOWN.out.alloc _) ⟨w2.heap.size, 0, none⟩ 1 1 [.string x, .string ⟨#[]⟩, .int .i64 0] rfl rfl (by exact cells_new _ _ _ _ rfl) (by intro u hu; simp at hu; rcases hu with rfl | rfl | rfl <;> rfl) (by unfold maxLen; omega) (by omega) (by simp; omega) ?_; intro v5 W5 o5 g5 n5; obtain ⟨a5, c5, rfl, _, _⟩ := own_slice o5; have g6 : (w2.alloc (Obj.cells #[.string x, .string ⟨#[]⟩, .int .i64 0] 87)).grownBy W5 (Value.slice a n c).ownBlock := ⟨g5.os, g5.tape, g5.output, g5.size, g5.block⟩; have KS := hide (HT.out.st.appended (f := ⟨x, ⟨#[]⟩, 0⟩) (by decide) (by rw [HN.out]; exact o5) g6 n5); obtain ⟨fb, ff⟩ := cell_of (j := 0) (u := .slice a n c) (beside g6 HT.out.st.blk HNB.out) rfl; obtain ⟨fd, _⟩ := cell_of (j := 0) (u := .pointer (some ⟨b, 0, none⟩)) (beside g6 HP1.out HND.out) rfl; clear o5 g5 g6 n5)
    all_goals (
      have HP3 := hide (HP1.out.keep HT.out.st KS.out.tch (by decide) (by decide))
      have hlen : (fs ++ [(⟨x, ⟨#[]⟩, 0⟩ : Fl)]).length = n + 1 := by simp [HN.out]
      have hown := KS.out.st.own
      rw [hlen] at hown
      obtain ⟨g5, rfl⟩ := own_some hown (by omega)
      have hgd : (fs ++ [(⟨x, ⟨#[]⟩, 0⟩ : Fl)]).getD n fl0 = ⟨x, ⟨#[]⟩, 0⟩ := by rw [← HN.out]; simp [List.getD]
      obtain ⟨_, e3, _⟩ := own_fl (k := n) hown hlen (by omega)
      rw [hgd] at e3
      obtain ⟨_, hfr⟩ := own_at (i := n * 3 + 1) hown (by omega)
      obtain ⟨e0, _⟩ := cell_of (j := 0) (u := .slice (some ⟨g5, 0, none⟩) (n + 1) c5) KS.out.st.blk rfl
      obtain ⟨e1, _⟩ := cell_of (j := 0) (u := .pointer (some ⟨b, 0, none⟩)) HP3.out rfl
      have ST2 := hide (KS.out.st.store (i := n * 3 + 1) (y := .string dd) (fs' := setD (fs ++ [(⟨x, ⟨#[]⟩, 0⟩ : Fl)]) n dd) (by decide) hlen (by omega) (by simp [setD, HN.out]) (fC_set1 dd (by omega)))
      clear hown hgd hlen c1 p2 c0 f0 p1 fb ff fd
      generalize W5.setCell ⟨b, 0, none⟩ (.slice (some ⟨g5, 0, none⟩) (n + 1) c5) = W6 at *
      go_wp2
      go_ret
      exact ⟨rfl, _, by rw [HFR.out, HN.out]; exact HT.out.trans (KS.out.trans ST2.out)⟩)
  · have HFR : Hid (fs' = setD fs i ((fs.getD i fl0).data ++ t)) := by
      show _ = _
      rw [← HFS.out]
      unfold aApp
      rw [if_neg (by omega), Int.toNat_natCast]
    have HDS : Hid ((fs.getD i fl0).data.size + t.size ≤ 70368744177664) := by
      have := HSZ.out
      unfold flAt at this
      rwa [if_neg (by omega), Int.toNat_natCast] at this
    have hown := HT.out.st.own
    obtain ⟨g, rfl⟩ := own_some hown (by omega)
    obtain ⟨_, e3, _⟩ := own_fl (k := i) hown rfl hi
    obtain ⟨_, hfr⟩ := own_at (i := i * 3 + 1) hown (by omega)
    generalize hdt : (fs.getD i fl0).data = dt at *
    have hadd := fun w => plus_at dt t w HDS.out
    generalize hdd : dt ++ t = dd at *
    have ST2 := hide (HT.out.st.store (i := i * 3 + 1) (y := .string dd) (fs' := setD fs i dd) (by decide) rfl (by omega) (by simp [setD]) (fC_set1 dd hi))
    clear hdt hdd hown HSZ
    generalize hn : fs.length = n at *
    have HN := hide hn
    clear hn
    go_wp2
    go_ret
    exact ⟨rfl, _, by rw [HFR.out]; first | exact HT.out.trans ST2.out | (rw [HN.out]; exact HT.out.trans ST2.out)⟩
end Go.Proofs.YtkncboinfcnklabGreatDoor

namespace Go.Proofs.YtkncboinfcnklabGreatDoor
open Go.RowKit Go.Deep Go.Proofs.YtkncboinfcnklabGreatDoor.Mth

def setS (fs : List Fl) (k y : Nat) : List Fl := fs.set k ⟨(fs.getD k fl0).name, (fs.getD k fl0).data, y⟩
def aSync (fs : List Fl) (r : Int) : List Fl := if r < 0 then fs else setS fs r.toNat (fs.getD r.toNat fl0).data.size
theorem drewB (w : World) : Below w.heap.size w w.drew := ⟨rfl, rfl, rfl, Nat.le_refl _, fun _ _ => rfl⟩

/-- What a store of a fresh list leaves, over a draw. -/
theorem freshed {w w1 w2 : World} {B b d : Nat} {fs fs' : List Fl} {l1 : Int} {fv fv1 v2 : Value} (HT : Stp 82 87 B b w w1 fv fs l1 fv1) (HP : Ptr 104 w1 d b) (hB : B ≤ w.heap.size) (hc : CurF 87 w1.drew w2 v2 fs') :
    Stp 82 87 B b w (w2.setCell ⟨b, 0, none⟩ v2) fv fs' l1 v2 ∧ w2.cell? ⟨b, 0, none⟩ = some fv1 ∧ w2.frozen? ⟨b, 0, none⟩ = false ∧ w2.cell? ⟨d, 0, none⟩ = some (.pointer (some ⟨b, 0, none⟩)) := by
  have hsz := HT.tch.size
  have hd := drewB w1
  have hc1 := hc.pre hd
  have hb := (HT.st.below hc1.1).blk
  obtain ⟨k0, k1⟩ := cell_of (j := 0) (u := fv1) hb rfl
  exact ⟨HT.trans (HT.st.setFresh (by decide) (by omega) hc1), k0, k1, (cell_of (j := 0) (u := .pointer (some ⟨b, 0, none⟩)) (HP.below hc1.1) rfl).1⟩

set_option maxHeartbeats 1000000 in
theorem apiSync_no {w : World} {B b d : Nat} {fs : List Fl} {fv : Value} (h : St 82 87 w B b fs 0 fv) (hp : Ptr 104 w d b) (x : ByteArray) :
    Calls Tryz.prog 85 #[.pointer (some ⟨d, 0, none⟩), .string x] w fun e w' => e = .returned (.bool false) ∧ Stp 82 87 B b w w' fv fs 0 fv := by
  have CS := hide (apiStep_any h (by omega) (by omega))
  rw [show decide ((0 : Int) ≠ 0) = false from by decide, show decL 0 = 0 from rfl] at CS
  obtain ⟨p0, _⟩ := cell_of (j := 0) (u := .pointer (some ⟨b, 0, none⟩)) hp rfl
  clear h hp
  go_enter Tryz.func85, Tryz.ntmps85
  go_wp2_with fail
  refine CS.out.mono ?_
  rintro e w1 ⟨rfl, hs⟩
  have HT := hide hs
  clear hs CS
  go_wp2
  go_ret
  exact ⟨rfl, HT.out⟩

set_option maxHeartbeats 1000000 in
theorem apiRename_no {w : World} {B b d : Nat} {fs : List Fl} {fv : Value} (h : St 82 87 w B b fs 0 fv) (hp : Ptr 104 w d b) (x y : ByteArray) :
    Calls Tryz.prog 86 #[.pointer (some ⟨d, 0, none⟩), .string x, .string y] w fun e w' => e = .returned (.bool false) ∧ Stp 82 87 B b w w' fv fs 0 fv := by
  have CS := hide (apiStep_any h (by omega) (by omega))
  rw [show decide ((0 : Int) ≠ 0) = false from by decide, show decL 0 = 0 from rfl] at CS
  obtain ⟨p0, _⟩ := cell_of (j := 0) (u := .pointer (some ⟨b, 0, none⟩)) hp rfl
  clear h hp
  go_enter Tryz.func86, Tryz.ntmps86
  go_wp2_with fail
  refine CS.out.mono ?_
  rintro e w1 ⟨rfl, hs⟩
  have HT := hide hs
  clear hs CS
  go_wp2
  go_ret
  exact ⟨rfl, HT.out⟩

set_option maxHeartbeats 1000000 in
theorem apiRemove_no {w : World} {B b d : Nat} {fs : List Fl} {fv : Value} (h : St 82 87 w B b fs 0 fv) (hp : Ptr 104 w d b) (x : ByteArray) :
    Calls Tryz.prog 83 #[.pointer (some ⟨d, 0, none⟩), .string x] w fun e w' => e = .returned (.bool false) ∧ Stp 82 87 B b w w' fv fs 0 fv := by
  have CS := hide (apiStep_any h (by omega) (by omega))
  rw [show decide ((0 : Int) ≠ 0) = false from by decide, show decL 0 = 0 from rfl] at CS
  obtain ⟨p0, _⟩ := cell_of (j := 0) (u := .pointer (some ⟨b, 0, none⟩)) hp rfl
  clear h hp
  go_enter Tryz.func83, Tryz.ntmps83
  go_wp2_with fail
  refine CS.out.mono ?_
  rintro e w1 ⟨rfl, hs⟩
  have HT := hide hs
  clear hs CS
  go_wp2
  go_ret
  exact ⟨rfl, HT.out⟩

set_option maxRecDepth 100000 in
set_option maxHeartbeats 2000000 in
theorem apiRemove_yes {w : World} {B b d : Nat} {fs : List Fl} {left : Int} {fv : Value} (h : St 82 87 w B b fs left fv) (hp : Ptr 104 w d b) (hB : B ≤ w.heap.size) (h1 : -1 ≤ left) (h2 : left < 9223372036854775808) (q : left ≠ 0) (hl : fs.length ≤ 4194304) (x : ByteArray) :
    Calls Tryz.prog 83 #[.pointer (some ⟨d, 0, none⟩), .string x] w fun e w' => e = .returned (.bool true) ∧ ∃ fv', Stp 82 87 B b w w' fv (wo x fs) (decL left) fv' := by
  have CS := hide (apiStep_any h h1 h2)
  rw [decide_eq_true q] at CS
  obtain ⟨p0, _⟩ := cell_of (j := 0) (u := .pointer (some ⟨b, 0, none⟩)) hp rfl
  have HP := hide hp
  have HS := hide h
  generalize decL left = l1 at *
  clear h h1 h2 q hp
  go_enter Tryz.func83, Tryz.ntmps83
  go_wp2_with fail
  refine CS.out.mono ?_
  rintro e w1 ⟨rfl, hs⟩
  have HT := hide hs
  have HP1 := hide (HP.out.keep HS.out hs.tch (by decide) (by decide))
  obtain ⟨p1, _⟩ := cell_of (j := 0) (u := .pointer (some ⟨b, 0, none⟩)) HP1.out rfl
  have CW := hide (apiWithout_any (hs.st.below (drewB w1)) x hl)
  have hsz1 := hs.tch.size
  clear hs CS p0 HP HS
  go_wp2_with fail
  go_region_with (go_at_call 104; refine CW.out.mono ?_; rintro e w2 ⟨v2, rfl, hc2⟩; obtain ⟨a2, c2, rfl, _, _⟩ := own_slice hc2.2; obtain ⟨ht2, kb, kf, kd⟩ := freshed HT.out HP1.out hB hc2; have HT2 := hide ht2; clear ht2 hc2)
  all_goals (go_wp2; go_ret; exact ⟨rfl, _, HT2.out⟩)
end Go.Proofs.YtkncboinfcnklabGreatDoor

namespace Go.Proofs.YtkncboinfcnklabGreatDoor.WI
open Go.RowKit Go.Deep Mth

abbrev eI : Int → Value := Value.int .i64

theorem ptr_pointer {α : Type} (T : BT α) : ∃ u, T.ptr = .pointer u := by
  cases T with
  | nil => exact ⟨none, rfl⟩
  | node b o a l r => exact ⟨_, rfl⟩

set_option maxHeartbeats 400000 in
theorem size_any (T : BT Int) (w : World) (h : InT eI w T) :
    Calls Tryz.prog 78 #[T.ptr] w fun e w' => e = .returned (.int .i64 (lst T).length) ∧ w' = w := by
  cases T with
  | nil =>
    show Calls Tryz.prog 78 #[.pointer none] w _
    go_enter Tryz.func78, Tryz.ntmps78
    go_wp2
    go_ret
    exact ⟨rfl, rfl⟩
  | node b o a l r =>
    obtain ⟨rfl, h0, ⟨h1, _⟩, h2, h3, hl, hr⟩ := h
    show Calls Tryz.prog 78 #[.pointer (some ⟨b, 0, none⟩)] w _
    clear h0 h2 h3 hl hr
    have e : (lst (.node b 0 a l r)).length = (lst l).length + 1 + (lst r).length := by simp [lst]; omega
    rw [e]
    clear e
    generalize (lst l).length + 1 + (lst r).length = k at *
    go_enter Tryz.func78, Tryz.ntmps78
    go_wp2
    go_ret
    exact ⟨rfl, rfl⟩

theorem hide {p : Prop} (h : p) : Hid p := h

set_option maxHeartbeats 400000 in
theorem join_core (u v : Option Addr) (m n : Nat) (x : Int) (w : World) (sL : Hid (Calls Tryz.prog 78 #[.pointer u] w fun e w' => e = .returned (.int .i64 m) ∧ w' = w)) (sR : Hid (Calls Tryz.prog 78 #[.pointer v] w fun e w' => e = .returned (.int .i64 n) ∧ w' = w)) (hb : m + 1 + n ≤ 4611686018427387904) :
    Calls Tryz.prog 126 #[.pointer u, .int .i64 x, .pointer v] w fun e w' => e = .returned (.pointer (some ⟨w.heap.size, 0, none⟩)) ∧ w' = w.alloc (.cells #[.int .i64 x, .int .i64 (m + 1 + n : Nat), .pointer u, .pointer v] 172) := by
  go_enter Tryz.func126, Tryz.ntmps126
  go_wp2_with fail
  refine sL.out.mono ?_
  rintro e w' ⟨rfl, hw⟩
  subst hw
  go_wp2_with fail
  refine sR.out.mono ?_
  rintro e w' ⟨rfl, hw⟩
  subst hw
  go_wp2
  go_ret
  exact ⟨rfl, by rw [show ((m + 1 + n : Nat) : Int) = (m : Int) + 1 + (n : Int) by omega]⟩

theorem join_any (L R : BT Int) (x : Int) (w : World) (hL : InT eI w L) (hR : InT eI w R) (hb : (lst L).length + 1 + (lst R).length ≤ 4611686018427387904) :
    Calls Tryz.prog 126 #[L.ptr, .int .i64 x, R.ptr] w fun e w' => e = .returned (.pointer (some ⟨w.heap.size, 0, none⟩)) ∧ InT eI w' (.node w.heap.size 0 x L R) ∧ Below w.heap.size w w' := by
  have sL := size_any L w hL
  have sR := size_any R w hR
  obtain ⟨u, hu⟩ := ptr_pointer L
  obtain ⟨v, hv⟩ := ptr_pointer R
  rw [hu] at sL ⊢
  rw [hv] at sR ⊢
  refine (join_core u v _ _ x w sL sR hb).mono ?_
  rintro e w' ⟨rfl, rfl⟩
  have hB := (Below.refl w.heap.size w).alloc (Nat.le_refl _) (.cells #[.int .i64 x, .int .i64 ((lst L).length + 1 + (lst R).length : Nat), .pointer u, .pointer v] 172)
  refine ⟨rfl, ⟨rfl, ?_, ?_, ?_, ?_, InT.below hB hL, InT.below hB hR⟩, hB⟩
  · simp
  · exact ⟨by simp, _, (0, 0), by
      show (w.heap.push _)[w.heap.size]? = _
      rw [Array.getElem?_push, if_pos rfl]; rfl⟩
  · simp [hu]
  · simp [hv]
end Go.Proofs.YtkncboinfcnklabGreatDoor.WI

namespace Go.Proofs.YtkncboinfcnklabGreatDoor.WI
open Go.RowKit Go.Deep Mth

theorem inT_lt {α : Type} [NTy α] {enc : α → Value} {w : World} {b o : Nat} {a : α} {l r : BT α} (h : InT enc w (.node b o a l r)) : b < w.heap.size := World.block_lt_of_cell? _ _ h.2.1

theorem inT_drewN {α : Type} [NTy α] {enc : α → Value} {w : World} {n : Nat} {T : BT α} (h : InT enc w T) : InT enc (w.drewN n) T := InT.drewN (w := w) (w' := w.drewN n) rfl h

theorem size_at {T : BT Int} {u : Option Addr} (hu : T.ptr = .pointer u) {w : World} (h : InT eI w T) :
    Calls Tryz.prog 78 #[.pointer u] w fun e w' => e = .returned (.int .i64 (lst T).length) ∧ w' = w := by
  have := size_any T w h
  rwa [hu] at this

theorem join_at {L R : BT Int} {u v : Option Addr} (hu : L.ptr = .pointer u) (hv : R.ptr = .pointer v) (x : Int) {w : World} (hL : InT eI w L) (hR : InT eI w R) (hb : (lst L).length + 1 + (lst R).length ≤ 4611686018427387904) :
    Calls Tryz.prog 126 #[.pointer u, .int .i64 x, .pointer v] w fun e w' => e = .returned (.pointer (some ⟨w.heap.size, 0, none⟩)) ∧ InT eI w' (.node w.heap.size 0 x L R) ∧ Below w.heap.size w w' := by
  have := join_any L R x w hL hR hb
  rwa [hu, hv] at this

/-- What a call that makes a tree of a list leaves. -/
def Tree (w : World) (l : List Int) (e : Ending) (w' : World) : Prop := ∃ T : BT Int, e = .returned T.ptr ∧ InT eI w' T ∧ Below w.heap.size w w' ∧ lst T = l

theorem below_drew {w w' : World} {n : Nat} (h : Below (w.drewN n).heap.size (w.drewN n) w') : Below w.heap.size w w' := ⟨h.os, h.tape, h.output, h.size, h.block⟩

set_option maxHeartbeats 1000000 in
theorem turnLeft_one (L Rl Rr : BT Int) (x a : Int) (b : Nat) (w : World) (hL : InT eI w L) (hR : InT eI w (.node b 0 a Rl Rr)) (hb : (lst L).length + 2 + (lst Rl).length + (lst Rr).length ≤ 4611686018427387) (hlt : (lst Rl).length < 2 * (lst Rr).length) :
    Calls Tryz.prog 153 #[L.ptr, .int .i64 x, .pointer (some ⟨b, 0, none⟩)] w (Tree w (lst L ++ x :: lst (.node b 0 a Rl Rr))) := by
  have hblt := inT_lt hR
  have HR : Hid (InT eI w (.node b 0 a Rl Rr)) := hR
  obtain ⟨_, c0, c1, c2, c3, hl, hr⟩ := hR
  obtain ⟨u, hu⟩ := ptr_pointer L
  obtain ⟨ul, hul⟩ := ptr_pointer Rl
  obtain ⟨ur, hur⟩ := ptr_pointer Rr
  rw [hu]
  rw [hul] at c2
  rw [hur] at c3
  have HU := hide hu
  have HUL := hide hul
  have HUR := hide hur
  have HL : Hid (InT eI w L) := hL
  have Hl : Hid (InT eI w Rl) := hl
  have Hr : Hid (InT eI w Rr) := hr
  have hq : ((lst Rl).length : Int) < 2 * ((lst Rr).length : Int) := by omega
  clear hu hul hur hL hl hr c1 hlt
  go_enter Tryz.func153, Tryz.ntmps153
  go_wp2_with fail
  go_quiet (first
    | (go_at_call_of 78 (Value.pointer ul); refine Calls.quiet_of_same (size_at HUL.out ?_); exact inT_drewN Hl.out)
    | (go_at_call_of 78 (Value.pointer ur); refine Calls.quiet_of_same (size_at HUR.out ?_); exact inT_drewN Hr.out))
  go_wp2_with fail
  clear c2
  go_region_held3 (fun w' => w'.cell? ⟨b, 0, none⟩ = some (.int .i64 a) ∧ w'.cell? ⟨b, 3, none⟩ = some (.pointer ur)) (first | exact ⟨by assumption, by assumption⟩ | go_keep)
    (first
      | (go_at_call_of 126 (Value.pointer ul); refine (join_at HU.out HUL.out x (by exact inT_drewN HL.out) (by exact inT_drewN Hl.out) (by omega)).mono ?_; rintro e w1 ⟨rfl, hT1, hB1⟩; have k0 : w1.cell? ⟨b, 0, none⟩ = some (.int .i64 a) := (hB1.cell (p := ⟨b, 0, none⟩) hblt).trans c0; have k3 : w1.cell? ⟨b, 3, none⟩ = some (.pointer ur) := (hB1.cell (p := ⟨b, 3, none⟩) hblt).trans c3; have hlt1 : b < w1.heap.size := World.block_lt_of_cell? _ _ k0; have HT1 := hide hT1; have HB1 := hide hB1; clear hT1 hB1)
      | (go_at_call_of 126 (Value.pointer ur); refine (join_at (L := .node _ 0 x L Rl) rfl HUR.out a (by exact HT1.out) (by exact InT.below HB1.out (inT_drewN Hr.out)) (by simp [lst]; omega)).mono ?_; rintro e w2 ⟨rfl, hT2, hB2⟩; have j0 : w2.cell? ⟨b, 0, none⟩ = some (.int .i64 a) := (hB2.cell (p := ⟨b, 0, none⟩) hlt1).trans k0; have j3 : w2.cell? ⟨b, 3, none⟩ = some (.pointer ur) := (hB2.cell (p := ⟨b, 3, none⟩) hlt1).trans k3; have HT2 := hide hT2; have HB2 := hide hB2; clear hT2 hB2))
  go_wp2
  go_ret
  exact ⟨.node _ 0 a (.node _ 0 x L Rl) Rr, rfl, HT2.out, (below_drew HB1.out).trans (HB2.out.mono (below_drew HB1.out).size), by simp [lst]⟩

set_option maxHeartbeats 2000000 in
theorem turnLeft_two (L l2 r2 Rr : BT Int) (x a a2 : Int) (b b2 : Nat) (w : World) (hL : InT eI w L) (hR : InT eI w (.node b 0 a (.node b2 0 a2 l2 r2) Rr)) (hb : (lst L).length + 3 + (lst l2).length + (lst r2).length + (lst Rr).length ≤ 4611686018427387) (hlt : ¬ (lst (.node b2 0 a2 l2 r2)).length < 2 * (lst Rr).length) :
    Calls Tryz.prog 153 #[L.ptr, .int .i64 x, .pointer (some ⟨b, 0, none⟩)] w (Tree w (lst L ++ x :: lst (.node b 0 a (.node b2 0 a2 l2 r2) Rr))) := by
  have hblt := inT_lt hR
  obtain ⟨_, c0, c1, c2, c3, hl, hr⟩ := hR
  have hblt2 := inT_lt hl
  have Hl : Hid (InT eI w (.node b2 0 a2 l2 r2)) := hl
  obtain ⟨_, d0, d1, d2, d3, hl2, hr2⟩ := hl
  obtain ⟨u, hu⟩ := ptr_pointer L
  obtain ⟨ul, hul⟩ := ptr_pointer l2
  obtain ⟨um, hum⟩ := ptr_pointer r2
  obtain ⟨ur, hur⟩ := ptr_pointer Rr
  rw [hu]
  have c2' : w.cell? ⟨b, 2, none⟩ = some (.pointer (some ⟨b2, 0, none⟩)) := c2
  rw [hul] at d2
  rw [hum] at d3
  rw [hur] at c3
  have HU := hide hu
  have HUL := hide hul
  have HUM := hide hum
  have HUR := hide hur
  have HL : Hid (InT eI w L) := hL
  have Hl2 : Hid (InT eI w l2) := hl2
  have Hr2 : Hid (InT eI w r2) := hr2
  have Hr : Hid (InT eI w Rr) := hr
  have hq : ¬ ((lst (.node b2 0 a2 l2 r2)).length : Int) < 2 * ((lst Rr).length : Int) := by omega
  have hqs : (lst (.node b2 0 a2 l2 r2)).length ≤ 4611686018427387 := by simp [lst]; omega
  clear hu hul hum hur hL hl2 hr2 hr c1 c2 d1 hlt
  go_enter Tryz.func153, Tryz.ntmps153
  go_wp2_with fail
  go_quiet (first
    | (go_at_call_of 78 (Value.pointer (some ⟨b2, 0, none⟩)); refine Calls.quiet_of_same (size_at (T := .node b2 0 a2 l2 r2) rfl ?_); exact inT_drewN Hl.out)
    | (go_at_call_of 78 (Value.pointer ur); refine Calls.quiet_of_same (size_at HUR.out ?_); exact inT_drewN Hr.out))
  go_wp2_with fail
  clear c2'
  go_region_held3 (fun w' => w'.cell? ⟨b, 0, none⟩ = some (.int .i64 a) ∧ w'.cell? ⟨b, 3, none⟩ = some (.pointer ur) ∧ w'.cell? ⟨b2, 0, none⟩ = some (.int .i64 a2) ∧ w'.cell? ⟨b2, 2, none⟩ = some (.pointer ul) ∧ w'.cell? ⟨b2, 3, none⟩ = some (.pointer um)) (first | exact ⟨by assumption, by assumption, by assumption, by assumption, by assumption⟩ | go_keep)
    (first
      | (go_at_call_of 126 (Value.pointer ul); refine (join_at HU.out HUL.out x (by exact inT_drewN HL.out) (by exact inT_drewN Hl2.out) (by omega)).mono ?_; rintro e w1 ⟨rfl, hT1, hB1⟩; have k0 : w1.cell? ⟨b, 0, none⟩ = some (.int .i64 a) := (hB1.cell (p := ⟨b, 0, none⟩) hblt).trans c0; have k3 : w1.cell? ⟨b, 3, none⟩ = some (.pointer ur) := (hB1.cell (p := ⟨b, 3, none⟩) hblt).trans c3; have i0 : w1.cell? ⟨b2, 0, none⟩ = some (.int .i64 a2) := (hB1.cell (p := ⟨b2, 0, none⟩) hblt2).trans d0; have i2 : w1.cell? ⟨b2, 2, none⟩ = some (.pointer ul) := (hB1.cell (p := ⟨b2, 2, none⟩) hblt2).trans d2; have i3 : w1.cell? ⟨b2, 3, none⟩ = some (.pointer um) := (hB1.cell (p := ⟨b2, 3, none⟩) hblt2).trans d3; have hlt1 : b < w1.heap.size := World.block_lt_of_cell? _ _ k0; have hlt2 : b2 < w1.heap.size := World.block_lt_of_cell? _ _ i0; have HT1 := hide hT1; have HB1 := hide hB1; clear hT1 hB1)
      | (go_at_call_of 126 (Value.pointer um); refine (join_at HUM.out HUR.out a (by exact InT.below HB1.out (inT_drewN Hr2.out)) (by exact InT.below HB1.out (inT_drewN Hr.out)) (by omega)).mono ?_; rintro e w2 ⟨rfl, hT2, hB2⟩; have j0 : w2.cell? ⟨b, 0, none⟩ = some (.int .i64 a) := (hB2.cell (p := ⟨b, 0, none⟩) hlt1).trans k0; have j3 : w2.cell? ⟨b, 3, none⟩ = some (.pointer ur) := (hB2.cell (p := ⟨b, 3, none⟩) hlt1).trans k3; have f0 : w2.cell? ⟨b2, 0, none⟩ = some (.int .i64 a2) := (hB2.cell (p := ⟨b2, 0, none⟩) hlt2).trans i0; have f2 : w2.cell? ⟨b2, 2, none⟩ = some (.pointer ul) := (hB2.cell (p := ⟨b2, 2, none⟩) hlt2).trans i2; have f3 : w2.cell? ⟨b2, 3, none⟩ = some (.pointer um) := (hB2.cell (p := ⟨b2, 3, none⟩) hlt2).trans i3; have hlt3 : b < w2.heap.size := World.block_lt_of_cell? _ _ j0; have hlt4 : b2 < w2.heap.size := World.block_lt_of_cell? _ _ f0; have HT2 := hide hT2; have HB2 := hide hB2; clear hT2 hB2)
      | (go_at_call_of 126 (Value.int .i64 a2); refine (join_at (L := .node _ 0 x L l2) (R := .node _ 0 a r2 Rr) rfl rfl a2 (by exact InT.below HB2.out HT1.out) (by exact HT2.out) (by simp [lst]; omega)).mono ?_; rintro e w3 ⟨rfl, hT3, hB3⟩; have j0' : w3.cell? ⟨b, 0, none⟩ = some (.int .i64 a) := (hB3.cell (p := ⟨b, 0, none⟩) hlt3).trans j0; have j3' : w3.cell? ⟨b, 3, none⟩ = some (.pointer ur) := (hB3.cell (p := ⟨b, 3, none⟩) hlt3).trans j3; have f0' : w3.cell? ⟨b2, 0, none⟩ = some (.int .i64 a2) := (hB3.cell (p := ⟨b2, 0, none⟩) hlt4).trans f0; have f2' : w3.cell? ⟨b2, 2, none⟩ = some (.pointer ul) := (hB3.cell (p := ⟨b2, 2, none⟩) hlt4).trans f2; have f3' : w3.cell? ⟨b2, 3, none⟩ = some (.pointer um) := (hB3.cell (p := ⟨b2, 3, none⟩) hlt4).trans f3; have HT3 := hide hT3; have HB3 := hide hB3; clear hT3 hB3))
  go_wp2
  go_ret
  exact ⟨.node _ 0 a2 (.node _ 0 x L l2) (.node _ 0 a r2 Rr), rfl, HT3.out, ((below_drew HB1.out).trans (HB2.out.mono (below_drew HB1.out).size)).trans (HB3.out.mono (Nat.le_trans (below_drew HB1.out).size HB2.out.size)), by simp [lst]⟩
end Go.Proofs.YtkncboinfcnklabGreatDoor.WI
