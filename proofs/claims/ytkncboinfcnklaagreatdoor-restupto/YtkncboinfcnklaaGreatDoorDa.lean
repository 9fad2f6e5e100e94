import Derived.Test.YtkncboinfcnklaaGreatDoorD1
import Derived.Laws.ResultCell
import Derived.Laws.Rows
import Derived.Deep.RegionHeld3
namespace Go.Proofs.YtkncboinfcnklaaGreatDoor
open Go.RowKit Go.Deep Go.Proofs.YtkncboinfcnklaaGreatDoor.Mth

/-- Where the file of a name stands. -/
def At (fs : List Fl) (x : ByteArray) (r : Int) : Prop := (r = -1 ∧ ∀ j, j < fs.length → (fs.getD j fl0).name ≠ x) ∨ ∃ i : Nat, i < fs.length ∧ r = i ∧ (fs.getD i fl0).name = x ∧ ∀ j, j < i → (fs.getD j fl0).name ≠ x

theorem own_some {w : World} {B : Nat} {e : TypeId} {sz : Nat} {a : Option Addr} {n c : Nat} {xs : List Value} (h : w.ownsRow B e sz (.slice a n c) n xs) (h0 : 0 < n) : ∃ g, a = some ⟨g, 0, none⟩ := by
  rcases h.2 with ⟨_, q2⟩ | ⟨g, cap, cur, q, _⟩
  · omega
  · injection q with q; exact ⟨g, q⟩
theorem own_fl {w : World} {B : Nat} {e : TypeId} {g n c : Nat} {fs : List Fl} (h : w.ownsRow B e 3 (.slice (some ⟨g, 0, none⟩) n c) n (fs.flatMap fC)) {k : Nat} (hn : fs.length = n) (hk : k < n) : w.cell? ⟨g, k * 3, none⟩ = some (.string (fs.getD k fl0).name) ∧ w.cell? ⟨g, k * 3 + 1, none⟩ = some (.string (fs.getD k fl0).data) ∧ w.cell? ⟨g, k * 3 + 2, none⟩ = some (.int .i64 ((fs.getD k fl0).safe : Int)) := by
  obtain ⟨h0, h1, h2⟩ := fC_at (l := fs) (j := k) (by omega)
  have hc := h.cells (g := g) rfl
  have e : ∀ i, (⟨g, 0, none⟩ : Addr).add i = ⟨g, i, none⟩ := fun i => by unfold Addr.add; split <;> simp_all
  refine ⟨?_, ?_, ?_⟩
  · have := hc _ _ h0; rwa [e] at this
  · have := hc _ _ h1; rwa [e] at this
  · have := hc _ _ h2; rwa [e] at this

set_option maxRecDepth 100000 in
set_option maxHeartbeats 1000000 in
theorem find_any {w : World} {B b : Nat} {fs : List Fl} {left : Int} {fv : Value} (h : St 100 109 w B b fs left fv) (x : ByteArray) :
    Calls Tryz.prog 77 #[.pointer (some ⟨b, 0, none⟩), .string x] w fun e w' => ∃ r : Int, e = .returned (.int .i64 r) ∧ At fs x r ∧ w' = w := by
  obtain ⟨a, c, rfl, hc, hm⟩ := own_slice h.own
  unfold maxLen at hm
  obtain ⟨c0, f0⟩ := cell_of (j := 0) (u := .slice a fs.length c) h.blk rfl
  have HS := hide h
  clear h
  generalize hn : fs.length = n at *
  have HN := hide hn
  clear hn
  go_enter Tryz.func77, Tryz.ntmps77
  go_wp2_with fail
  go_loop [11] (fun i => ∃ k : Nat, k ≤ n ∧ i = .int .i64 k ∧ ∀ j, j < k → (fs.getD j fl0).name ≠ x) (fun i => n - (intOf i).toNat)
  case atStart => exact ⟨0, Nat.zero_le _, rfl, fun j hj => absurd hj (Nat.not_lt_zero _)⟩
  case round =>
    obtain ⟨k, hk, rfl, hno⟩ := hrel
    have HNO := hide hno
    clear hno
    by_cases hlt : k < n
    · have ho := HS.out.own
      rw [HN.out] at ho
      obtain ⟨g, rfl⟩ := own_some ho (by omega)
      obtain ⟨d0, _, _⟩ := own_fl ho HN.out hlt
      clear ho
      by_cases hx : (fs.getD k fl0).name = x
      · have HX := hide hx
        rw [hx] at d0
        clear hx
        go_wp2
        go_ret
        exact ⟨k, rfl, Or.inr ⟨k, by rw [HN.out]; exact hlt, rfl, HX.out, HNO.out⟩, rfl⟩
      · have HX := hide hx
        generalize hy : (fs.getD k fl0).name = y at d0 hx
        have q := eqS_false hx
        clear hx hy
        go_wp2
        go_round
        case rel => exact ⟨k + 1, by omega, by go_num, fun j hj => by
          by_cases c : j = k
          · subst c; exact HX.out
          · exact HNO.out j (by omega)⟩
        case measure => simp [intOf]; omega
    · go_wp2
      go_ret
      exact ⟨-1, rfl, Or.inl ⟨rfl, fun j hj => HNO.out j (by rw [HN.out] at hj; omega)⟩, rfl⟩

/-- What others have of a disk. -/
def Ptr (T : TypeId) (w : World) (d b : Nat) : Prop := w.heap[d]? = some (Obj.cells #[.pointer (some ⟨b, 0, none⟩)] T (0, 0))

set_option maxHeartbeats 1000000 in
theorem stopped_any {w : World} {B b d : Nat} {fs : List Fl} {left : Int} {fv : Value} (h : St 100 109 w B b fs left fv) (hp : Ptr 102 w d b) :
    Calls Tryz.prog 41 #[.pointer (some ⟨d, 0, none⟩)] w fun e w' => e = .returned (.bool (left == 0)) ∧ w' = w := by
  obtain ⟨c1, f1⟩ := cell_of (j := 1) (u := .int .i64 left) h.blk rfl
  obtain ⟨c0, f0⟩ := cell_of (j := 0) (u := .pointer (some ⟨b, 0, none⟩)) hp rfl
  go_enter Tryz.func41, Tryz.ntmps41
  go_wp2
  go_ret
  exact ⟨rfl, rfl⟩

set_option maxHeartbeats 1000000 in
theorem has_any {w : World} {B b d : Nat} {fs : List Fl} {left : Int} {fv : Value} (h : St 100 109 w B b fs left fv) (hp : Ptr 102 w d b) (x : ByteArray) :
    Calls Tryz.prog 40 #[.pointer (some ⟨d, 0, none⟩), .string x] w fun e w' => ∃ r : Int, At fs x r ∧ e = .returned (.bool (decide (0 ≤ r))) ∧ w' = w := by
  obtain ⟨c0, f0⟩ := cell_of (j := 0) (u := .pointer (some ⟨b, 0, none⟩)) hp rfl
  have CF := hide (find_any h x)
  clear h hp
  go_enter Tryz.func40, Tryz.ntmps40
  go_wp2_with fail
  refine CF.out.mono ?_
  rintro e w1 ⟨r, rfl, hr, rfl⟩
  have HR := hide hr
  clear hr CF
  go_wp2
  go_ret
  exact ⟨r, HR.out, by first | rfl | simp, rfl⟩

set_option maxHeartbeats 1000000 in
theorem read_any {w : World} {B b d : Nat} {fs : List Fl} {left : Int} {fv : Value} (h : St 100 109 w B b fs left fv) (hp : Ptr 102 w d b) (x : ByteArray) :
    Calls Tryz.prog 39 #[.pointer (some ⟨d, 0, none⟩), .string x] w fun e w' => ∃ r : Int, At fs x r ∧ e = .returned (.string (if r < 0 then ⟨#[]⟩ else (fs.getD r.toNat fl0).data)) ∧ w' = w := by
  obtain ⟨c0, f0⟩ := cell_of (j := 0) (u := .pointer (some ⟨b, 0, none⟩)) hp rfl
  have CF := hide (find_any h x)
  obtain ⟨a, c, rfl, hc, hm⟩ := own_slice h.own
  unfold maxLen at hm
  obtain ⟨c2, f2⟩ := cell_of (j := 0) (u := .slice a fs.length c) h.blk rfl
  have HS := hide h
  clear h hp
  go_enter Tryz.func39, Tryz.ntmps39
  go_wp2_with fail
  refine CF.out.mono ?_
  rintro e w1 ⟨r, rfl, hr, rfl⟩
  have HR := hide hr
  clear CF
  rcases hr with ⟨rfl, _⟩ | ⟨i, hi, rfl, _, _⟩
  · go_wp2
    go_ret
    exact ⟨-1, HR.out, rfl, rfl⟩
  · obtain ⟨g, rfl⟩ := own_some HS.out.own (by omega)
    obtain ⟨_, d1, _⟩ := own_fl HS.out.own rfl hi
    generalize hn : fs.length = n at *
    have HN := hide hn
    generalize hd : (fs.getD i fl0).data = y at d1
    have HD := hide hd
    clear hn hd
    go_wp2
    go_ret
    exact ⟨i, HR.out, by rw [if_neg (by omega), Int.toNat_natCast, HD.out]; rfl, rfl⟩

def stopL (l n : Int) : Int := if l = 0 then 0 else if n < 0 then -1 else n

set_option maxHeartbeats 1000000 in
theorem apiStop_any {w : World} {B b d : Nat} {fs : List Fl} {left : Int} {fv : Value} (h : St 100 109 w B b fs left fv) (hp : Ptr 104 w d b) (n : Int) :
    Calls Tryz.prog 43 #[.pointer (some ⟨d, 0, none⟩), .int .i64 n] w fun e w' => e = .returned (.tuple #[]) ∧ Stp 100 109 B b w w' fv fs (stopL left n) fv := by
  obtain ⟨c1, f1⟩ := cell_of (j := 1) (u := .int .i64 left) h.blk rfl
  obtain ⟨c0, f0⟩ := cell_of (j := 0) (u := .pointer (some ⟨b, 0, none⟩)) hp rfl
  have HS := hide h
  clear h hp
  by_cases q : left = 0
  · subst q
    go_enter Tryz.func43, Tryz.ntmps43
    go_wp2
    go_end0
    exact ⟨rfl, Stp.refl HS.out⟩
  · have q4 : (left == 0) = false := by simpa using q
    by_cases q2 : n < 0
    · have e1 : max (-1) n = stopL left n := by unfold stopL; rw [if_neg q, if_pos q2]; omega
      generalize stopL left n = l' at *
      go_enter Tryz.func43, Tryz.ntmps43
      go_wp2
      go_end0
      first
        | (rw [e1]; exact ⟨rfl, HS.out.setLeft (by decide)⟩)
        | (refine ⟨rfl, ?_⟩; rw [← e1]; exact HS.out.setLeft (by decide))
    · have e1 : max (-1) n = stopL left n := by unfold stopL; rw [if_neg q, if_neg q2]; omega
      generalize stopL left n = l' at *
      go_enter Tryz.func43, Tryz.ntmps43
      go_wp2
      go_end0
      first
        | (rw [e1]; exact ⟨rfl, HS.out.setLeft (by decide)⟩)
        | (refine ⟨rfl, ?_⟩; rw [← e1]; exact HS.out.setLeft (by decide))

set_option maxHeartbeats 1000000 in
theorem refStop_any {w : World} {B b : Nat} {fs : List Fl} {left : Int} {fv : Value} (h : St 107 111 w B b fs left fv) (n : Int) :
    Calls Tryz.prog 44 #[.pointer (some ⟨b, 0, none⟩), .int .i64 n] w fun e w' => e = .returned (.tuple #[]) ∧ Stp 107 111 B b w w' fv fs (stopL left n) fv := by
  obtain ⟨c1, f1⟩ := cell_of (j := 1) (u := .int .i64 left) h.blk rfl
  have HS := hide h
  clear h
  by_cases q : left = 0
  · subst q
    go_enter Tryz.func44, Tryz.ntmps44
    go_wp2
    (try simp only [Exit.inBlock, Exit.then]); refine bodyPost_ret (results_none rfl _ _ _) rfl ?_
    exact ⟨rfl, Stp.refl HS.out⟩
  · have q4 : (left == 0) = false := by simpa using q
    have S1 := hide (HS.out.setLeft (l' := n) (by decide))
    by_cases q2 : n < 0
    · have e1 : stopL left n = -1 := by unfold stopL; rw [if_neg q, if_pos q2]
      rw [e1]
      obtain ⟨k1, g1⟩ := cell_of (j := 1) (u := .int .i64 n) S1.out.st.blk rfl
      go_enter Tryz.func44, Tryz.ntmps44
      go_wp2
      go_end0
      exact ⟨rfl, S1.out.trans (S1.out.st.setLeft (by decide))⟩
    · have e1 : stopL left n = n := by unfold stopL; rw [if_neg q, if_neg q2]
      rw [e1]
      go_enter Tryz.func44, Tryz.ntmps44
      go_wp2
      go_end0
      exact ⟨rfl, S1.out⟩
end Go.Proofs.YtkncboinfcnklaaGreatDoor

namespace Go.Proofs.YtkncboinfcnklaaGreatDoor
open Go.RowKit Go.Deep Go.Proofs.YtkncboinfcnklaaGreatDoor.Mth

theorem Tryz.info109 : (Tryz.prog.info? 109).map (fun i => (i.zero, i.size, i.bytes)) = some (some (.agg #[.string ⟨#[]⟩, .string ⟨#[]⟩, .int .i64 0]), 3, 40) := by kernel_rfl
theorem Tryz.info111 : (Tryz.prog.info? 111).map (fun i => (i.zero, i.size, i.bytes)) = some (some (.agg #[.string ⟨#[]⟩, .string ⟨#[]⟩, .int .i64 0]), 3, 40) := by kernel_rfl

/-- All files but that of a name. -/
def wo (x : ByteArray) (fs : List Fl) : List Fl := fs.filter (fun f => !decide (f.name = x))
theorem wo_snoc_no {x : ByteArray} {l : List Fl} {f : Fl} (h : f.name ≠ x) : wo x (l ++ [f]) = wo x l ++ [f] := by simp [wo, h]
theorem wo_snoc_yes {x : ByteArray} {l : List Fl} {f : Fl} (h : f.name = x) : wo x (l ++ [f]) = wo x l := by simp [wo, h]
theorem wo_len (x : ByteArray) (l : List Fl) : (wo x l).length ≤ l.length := List.length_filter_le _ _
theorem take_snoc {α : Type} {l : List α} {k : Nat} (h : k < l.length) (z : α) : l.take (k + 1) = l.take k ++ [l.getD k z] := by
  rw [List.take_add_one, List.getElem?_eq_getElem h]
  simp [List.getD, h]

/-- A list of files of the call's own. -/
def CurF (e : TypeId) (w0 w : World) (v : Value) (l : List Fl) : Prop := Below w0.heap.size w0 w ∧ w.ownsRow w0.heap.size e 3 v l.length (l.flatMap fC)
theorem CurF.alloc {e : TypeId} {w0 w : World} {v : Value} {l : List Fl} (h : CurF e w0 w v l) (o : Obj) : CurF e w0 (w.alloc o) v l := ⟨h.1.trans ((below_alloc w o).mono h.1.size), h.2.alloc o⟩
theorem curF_append {e : TypeId} {w0 w w2 : World} {v v2 : Value} {o : Obj} {l : List Fl} {f : Fl} (h : CurF e w0 w v l) (h2 : w2.ownsRow w0.heap.size e 3 v2 (l.length + 1) (l.flatMap fC ++ fC f)) (hg : (w.alloc o).grownBy w2 v.ownBlock) : CurF e w0 w2 v2 (l ++ [f]) := by
  refine ⟨?_, by simpa [List.flatMap_append] using h2⟩
  refine (h.1.trans ((below_alloc w o).mono h.1.size)).grown hg (by have := h.1.size; simp; omega) ?_
  intro k hk
  exact (h.2.lt k hk).1

set_option maxRecDepth 100000 in
set_option maxHeartbeats 1000000 in
theorem apiWithout_any {w : World} {B b : Nat} {fs : List Fl} {left : Int} {fv : Value} (h : St 100 109 w B b fs left fv) (x : ByteArray) (hl : fs.length ≤ 4194304) :
    Calls Tryz.prog 80 #[.pointer (some ⟨b, 0, none⟩), .string x] w fun e w' => ∃ v, e = .returned v ∧ CurF 109 w w' v (wo x fs) := by
  obtain ⟨i0, hi0, hz0, hz1, hz2⟩ := info_parts Tryz.info109
  obtain ⟨a, c, rfl, hc, hm⟩ := own_slice h.own
  unfold maxLen at hm
  obtain ⟨c0, f0⟩ := cell_of (j := 0) (u := .slice a fs.length c) h.blk rfl
  have HS := hide h
  clear h
  generalize hn : fs.length = n at *
  have HN := hide hn
  clear hn
  go_enter Tryz.func80, Tryz.ntmps80
  go_wp2_with fail
  go_loopw [5, 13] (fun lv i wr => ∃ k : Nat, k ≤ n ∧ i = .int .i64 k ∧ CurF 109 w wr lv (wo x (fs.take k))) (fun _ i _ => n - (intOf i).toNat)
  case atStart => exact ⟨0, Nat.zero_le _, rfl, ⟨Below.refl _ _, World.ownsRow_nil _ _ _ _⟩⟩
  case round =>
    obtain ⟨k, hk, rfl, hcur⟩ := hrel
    have HC := hide hcur
    clear hcur
    by_cases hlt : k < n
    · have ho := (HS.out.below HC.out.1).own
      rw [HN.out] at ho
      obtain ⟨g, rfl⟩ := own_some ho (by omega)
      obtain ⟨d0, d1, d2⟩ := own_fl ho HN.out hlt
      clear ho c0
      have HTK := hide (take_snoc (by rw [HN.out]; exact hlt : k < fs.length) fl0)
      have hml : (wo x (fs.take k)).length ≤ k := Nat.le_trans (wo_len _ _) (by rw [List.length_take]; omega)
      obtain ⟨f, hf⟩ : ∃ f, f = fs.getD k fl0 := ⟨_, rfl⟩
      rw [← hf] at d0 d1 d2
      have HTK2 : Hid (fs.take (k + 1) = fs.take k ++ [f]) := by rw [hf]; exact HTK.out
      clear HTK hf
      obtain ⟨nm, dt, sf⟩ := f
      simp only at d0 d1 d2
      have hsz := HC.out.1.size
      by_cases hx : nm = x
      · subst hx
        have HW : Hid (CurF 109 w (wr.alloc (Obj.cells #[.string nm, .string dt, .int .i64 (sf : Int)] 109)) u5 (wo nm (fs.take (k + 1)))) := by
          show CurF _ _ _ _ _
          rw [HTK2.out, wo_snoc_yes (f := ⟨nm, dt, sf⟩) rfl]
          exact HC.out.alloc _
        go_wp2
        go_roundw
        case rel => exact ⟨k + 1, by omega, by go_num, HW.out⟩
        case measure => simp [intOf]; omega
      · have q := eqS_false hx
        have HW : Hid (wo x (fs.take (k + 1)) = wo x (fs.take k) ++ [⟨nm, dt, sf⟩]) := by
          show _ = _
          rw [HTK2.out, wo_snoc_no (f := ⟨nm, dt, sf⟩) hx]
        have HC1 := hide (HC.out.alloc (Obj.cells #[.string nm, .string dt, .int .i64 (sf : Int)] 109))
        generalize wo x (fs.take k) = m at *
        go_wp2_with (first | (at_builtin; refine wpList_append_own _ rfl _ _ 98 rfl w.heap.size 109 i0 (.agg #[.string ⟨#[]⟩, .string ⟨#[]⟩, .int .i64 0]) 3 40 Tryz.underlying98 hi0 hz0 hz1 hz2 rfl (by decide) _ _ _ rfl (HC1.out.2.alloc _) ⟨_, 0, none⟩ 1 1 [.string nm, .string dt, .int .i64 (sf : Int)] rfl rfl (cells_new2 _ _ (by simp) _ _ _ rfl) (by intro u hu; simp at hu; rcases hu with rfl | rfl | rfl <;> rfl) (by unfold maxLen; omega) (by omega) (by simp; omega) ?_; intro v4 w4 hown4 hgrow4 _; have HC4 := hide (curF_append (f := ⟨nm, dt, sf⟩) HC1.out hown4 hgrow4); clear hown4 hgrow4))
        go_roundw
        case rel => exact ⟨k + 1, by omega, by go_num, by rw [HW.out]; exact HC4.out⟩
        case measure => simp [intOf]; omega
    · have hke : k = n := by omega
      subst hke
      have HF : Hid (fs.take k = fs) := List.take_of_length_le (by rw [HN.out]; exact Nat.le_refl _)
      go_wp2
      go_ret
      exact ⟨_, rfl, by have := HC.out; rwa [HF.out] at this⟩
end Go.Proofs.YtkncboinfcnklaaGreatDoor

namespace Go.Proofs.YtkncboinfcnklaaGreatDoor
open Go.RowKit Go.Deep Go.Proofs.YtkncboinfcnklaaGreatDoor.Mth

theorem own_base {w : World} {B B' : Nat} {e : TypeId} {sz : Nat} {v : Value} {n : Nat} {xs : List Value} (h : w.ownsRow B' e sz v n xs) (hB : B ≤ B') : w.ownsRow B e sz v n xs := by
  refine ⟨h.1, h.2.imp id ?_⟩
  rintro ⟨g, cap, cur, hv, h1, h2⟩
  exact ⟨g, cap, cur, hv, Nat.le_trans hB h1, h2⟩
theorem CurF.pre {e : TypeId} {w wA w1 : World} {v : Value} {l : List Fl} (hb : Below w.heap.size w wA) (h : CurF e wA w1 v l) : CurF e w w1 v l := ⟨hb.trans (h.1.mono hb.size), own_base h.2 hb.size⟩
theorem CurF.below {e : TypeId} {w w1 w2 : World} {v : Value} {l : List Fl} (h : CurF e w w1 v l) (hb : Below w1.heap.size w1 w2) : CurF e w w2 v l := ⟨h.1.trans (hb.mono h.1.size), own_same h.2 (fun _ hg => hb.block _ (own_block h.2 hg).2.1)⟩
theorem St.setFresh {T e : TypeId} {w w1 : World} {B b : Nat} {fs fs' : List Fl} {left : Int} {fv v : Value} (h : St T e w B b fs left fv) (hT : T ≠ e) (hB : B ≤ w.heap.size) (hc : CurF e w w1 v fs') : Stp T e B b w (w1.setCell ⟨b, 0, none⟩ v) fv fs' left v :=
  h.setFiles hT (own_base hc.2 hB) (tch_below hc.1) (fun _ hg => Or.inr (own_block hc.2 hg).1)

set_option maxRecDepth 100000 in
set_option maxHeartbeats 1000000 in
theorem refWithout_any {w : World} {B b : Nat} {fs : List Fl} {left : Int} {fv : Value} (h : St 107 111 w B b fs left fv) (x : ByteArray) (hl : fs.length ≤ 4194304) :
    Calls Tryz.prog 81 #[.pointer (some ⟨b, 0, none⟩), .string x] w fun e w' => ∃ v, e = .returned v ∧ CurF 111 w w' v (wo x fs) := by
  obtain ⟨i0, hi0, hz0, hz1, hz2⟩ := info_parts Tryz.info111
  obtain ⟨a, c, rfl, hc, hm⟩ := own_slice h.own
  unfold maxLen at hm
  have HS := hide h
  clear h
  generalize hn : fs.length = n at *
  have HN := hide hn
  clear hn
  go_enter Tryz.func81, Tryz.ntmps81
  go_wp2_with fail
  go_loopw [5, 6] (fun lv i wr => ∃ k : Nat, k ≤ n ∧ i = .int .i64 k ∧ CurF 111 w wr lv (wo x (fs.take k))) (fun _ i _ => n - (intOf i).toNat)
  case atStart => exact ⟨0, Nat.zero_le _, rfl, ⟨Below.refl _ _, World.ownsRow_nil _ _ _ _⟩⟩
  case round =>
    obtain ⟨k, hk, rfl, hcur⟩ := hrel
    have HC := hide hcur
    clear hcur
    obtain ⟨c0, f0⟩ := cell_of (j := 0) (u := .slice a n c) (HS.out.below HC.out.1).blk rfl
    by_cases hlt : k < n
    · have ho := (HS.out.below HC.out.1).own
      rw [HN.out] at ho
      obtain ⟨g, rfl⟩ := own_some ho (by omega)
      obtain ⟨d0, d1, d2⟩ := own_fl ho HN.out hlt
      clear ho
      have HTK := hide (take_snoc (by rw [HN.out]; exact hlt : k < fs.length) fl0)
      have hml : (wo x (fs.take k)).length ≤ k := Nat.le_trans (wo_len _ _) (by rw [List.length_take]; omega)
      obtain ⟨f, hf⟩ : ∃ f, f = fs.getD k fl0 := ⟨_, rfl⟩
      rw [← hf] at d0 d1 d2
      have HTK2 : Hid (fs.take (k + 1) = fs.take k ++ [f]) := by rw [hf]; exact HTK.out
      clear HTK hf
      obtain ⟨nm, dt, sf⟩ := f
      simp only at d0 d1 d2
      have hsz := HC.out.1.size
      by_cases hx : nm = x
      · subst hx
        have HW : Hid (CurF 111 w wr u5 (wo nm (fs.take (k + 1)))) := by
          show CurF _ _ _ _ _
          rw [HTK2.out, wo_snoc_yes (f := ⟨nm, dt, sf⟩) rfl]
          exact HC.out
        go_wp2
        go_roundw
        case rel => exact ⟨k + 1, by omega, by go_num, HW.out⟩
        case measure => simp [intOf]; omega
      · have q := eqS_false hx
        have HW : Hid (wo x (fs.take (k + 1)) = wo x (fs.take k) ++ [⟨nm, dt, sf⟩]) := by
          show _ = _
          rw [HTK2.out, wo_snoc_no (f := ⟨nm, dt, sf⟩) hx]
        generalize wo x (fs.take k) = m at *
        go_wp2_with (first | (at_builtin; refine wpList_append_own _ rfl _ _ 105 rfl w.heap.size 111 i0 (.agg #[.string ⟨#[]⟩, .string ⟨#[]⟩, .int .i64 0]) 3 40 Tryz.underlying105 hi0 hz0 hz1 hz2 rfl (by decide) _ _ _ rfl (HC.out.2.alloc _) ⟨_, 0, none⟩ 1 1 [.string nm, .string dt, .int .i64 (sf : Int)] rfl rfl (cells_new2 _ _ (by simp) _ _ _ rfl) (by intro u hu; simp at hu; rcases hu with rfl | rfl | rfl <;> rfl) (by unfold maxLen; omega) (by omega) (by simp; omega) ?_; intro v4 w4 hown4 hgrow4 _; have HC4 := hide (curF_append (f := ⟨nm, dt, sf⟩) HC.out hown4 hgrow4); clear hown4 hgrow4))
        go_roundw
        case rel => exact ⟨k + 1, by omega, by go_num, by rw [HW.out]; exact HC4.out⟩
        case measure => simp [intOf]; omega
    · have hke : k = n := by omega
      subst hke
      have HF : Hid (fs.take k = fs) := List.take_of_length_le (by rw [HN.out]; exact Nat.le_refl _)
      go_wp2
      go_ret
      exact ⟨_, rfl, by have := HC.out; rwa [HF.out] at this⟩

theorem setCell_blk {w : World} {b j : Nat} {C : Array Value} {t : TypeId} {v : Value} (h : w.heap[b]? = some (Obj.cells C t (0, 0))) : (w.setCell ⟨b, j, none⟩ v).heap[b]? = some (Obj.cells (C.setIfInBounds j v) t (0, 0)) := by
  simp [World.setCell, Array.getElem?_modify, h]

set_option maxRecDepth 100000 in
set_option maxHeartbeats 1000000 in
theorem put_any {w : World} {B b : Nat} {fs : List Fl} {left : Int} {fv : Value} (h : St 107 111 w B b fs left fv) (f : Fl) (hl : fs.length ≤ 4194304) (hB : B ≤ w.heap.size) :
    Calls Tryz.prog 79 #[.pointer (some ⟨b, 0, none⟩), .agg #[.string f.name, .string f.data, .int .i64 (f.safe : Int)]] w fun e w' => e = .returned (.tuple #[]) ∧ ∃ fv', Stp 107 111 B b w w' fv (wo f.name fs ++ [f]) left fv' := by
  obtain ⟨i0, hi0, hz0, hz1, hz2⟩ := info_parts Tryz.info111
  obtain ⟨nm, dt, sf⟩ := f
  have HB1 := hide (below_alloc w (Obj.cells #[.string nm, .string dt, .int .i64 (sf : Int)] 111))
  have hbk : (w.alloc (Obj.cells #[.string nm, .string dt, .int .i64 (sf : Int)] 111)).heap[w.heap.size]? = some (Obj.cells #[.string nm, .string dt, .int .i64 (sf : Int)] 111 (0, 0)) := by
    show (w.heap.push _)[w.heap.size]? = _
    rw [Array.getElem?_push, if_pos rfl]
  have HBK := hide hbk
  have CW := hide (refWithout_any (h.below HB1.out) nm hl)
  have hml : (wo nm fs).length ≤ fs.length := wo_len _ _
  have hlt1 : w.heap.size < (w.alloc (Obj.cells #[.string nm, .string dt, .int .i64 (sf : Int)] 111)).heap.size := by simp
  have HS := hide h
  clear h hbk
  dsimp only
  go_enter Tryz.func79, Tryz.ntmps79
  go_wp2_with fail
  refine CW.out.mono ?_
  rintro e w1 ⟨v, rfl, hc⟩
  have HK1 := hide ((hc.1.block w.heap.size hlt1).trans HBK.out)
  obtain ⟨e0, _⟩ := cell_of (j := 0) (u := .string nm) HK1.out rfl
  obtain ⟨e1, _⟩ := cell_of (j := 1) (u := .string dt) HK1.out rfl
  obtain ⟨e2, _⟩ := cell_of (j := 2) (u := .int .i64 (sf : Int)) HK1.out rfl
  have HC := hide (hc.pre HB1.out)
  have hsz := HC.out.1.size
  have HS1 := hide (HS.out.below HC.out.1)
  clear hc CW HB1 HBK hlt1
  generalize hmm : wo nm fs = m at *
  have HM := hide hmm
  clear hmm
  generalize w.heap.size = nb at e0 e1 e2 HK1
  go_wp2_with (first | (at_builtin; refine wpList_append_own _ rfl _ _ 105 rfl w.heap.size 111 i0 (.agg #[.string ⟨#[]⟩, .string ⟨#[]⟩, .int .i64 0]) 3 40 Tryz.underlying105 hi0 hz0 hz1 hz2 rfl (by decide) _ _ _ rfl (HC.out.2.alloc _) ⟨_, 0, none⟩ 1 1 [.string nm, .string dt, .int .i64 (sf : Int)] rfl rfl (cells_new2 _ _ (by simp) _ _ _ rfl) (by intro u hu; simp at hu; rcases hu with rfl | rfl | rfl <;> rfl) (by unfold maxLen; omega) (by omega) (by simp; omega) ?_; intro v4 w4 hown4 hgrow4 _; obtain ⟨a4, c4, rfl, _, _⟩ := own_slice hown4; have HC4 := hide (curF_append (f := ⟨nm, dt, sf⟩) HC.out hown4 hgrow4); have HS4 := hide (HS.out.setFresh (by decide) hB HC4.out); obtain ⟨k0, kf⟩ := cell_of (j := 0) (u := fv) (HS.out.below HC4.out.1).blk rfl; clear hown4 hgrow4))
  all_goals (go_end0; exact ⟨rfl, _, by rw [HM.out]; exact HS4.out⟩)
end Go.Proofs.YtkncboinfcnklaaGreatDoor

namespace Go.Proofs.YtkncboinfcnklaaGreatDoor
open Go.RowKit Go.Deep Go.Proofs.YtkncboinfcnklaaGreatDoor.Mth

/-- The file at a place; below 0: none. -/
def flAt (fs : List Fl) (r : Int) : Fl := if r < 0 then fl0 else fs.getD r.toNat fl0

theorem below_set {w w1 : World} {nb j : Nat} {v : Value} (h : Below w.heap.size w w1) (hn : w.heap.size ≤ nb) : Below w.heap.size w (w1.setCell ⟨nb, j, none⟩ v) :=
  ⟨h.os, h.tape, h.output, by have := h.size; simpa using this, fun k hk => by rw [set_other (by omega)]; exact h.block k hk⟩

set_option maxRecDepth 100000 in
set_option maxHeartbeats 1000000 in
theorem file_any {w : World} {B b : Nat} {fs : List Fl} {left : Int} {fv : Value} (h : St 107 111 w B b fs left fv) (x : ByteArray) :
    Calls Tryz.prog 42 #[.pointer (some ⟨b, 0, none⟩), .string x] w fun e w' => ∃ r : Int, At fs x r ∧ e = .returned (.tuple #[.agg #[.string (flAt fs r).name, .string (flAt fs r).data, .int .i64 ((flAt fs r).safe : Int)], .bool (decide (0 ≤ r))]) ∧ Below w.heap.size w w' := by
  obtain ⟨i0, hi0, hz0, hz1, hz2⟩ := info_parts Tryz.info111
  have hsz : (Tryz.prog.info? 111).map (·.size) = some 3 := by rw [hi0]; simp [hz1]
  obtain ⟨a, c, rfl, hc, hm⟩ := own_slice h.own
  unfold maxLen at hm
  have HB1 := hide (below_alloc w (Obj.cells #[.string ⟨#[]⟩, .string ⟨#[]⟩, .int .i64 0] 111))
  have hbk : (w.alloc (Obj.cells #[.string ⟨#[]⟩, .string ⟨#[]⟩, .int .i64 0] 111)).heap[w.heap.size]? = some (Obj.cells #[.string ⟨#[]⟩, .string ⟨#[]⟩, .int .i64 0] 111 (0, 0)) := by
    show (w.heap.push _)[w.heap.size]? = _
    rw [Array.getElem?_push, if_pos rfl]
  have HBK := hide hbk
  have HS := hide (h.below HB1.out)
  clear h hbk
  generalize hn : fs.length = n at *
  have HN := hide hn
  clear hn
  go_enter Tryz.func42, Tryz.ntmps42
  go_wp2_with fail
  generalize w.alloc (Obj.cells #[.string ⟨#[]⟩, .string ⟨#[]⟩, .int .i64 0] 111) = w1 at *
  obtain ⟨nb, hnb⟩ : ∃ nb, nb = w.heap.size := ⟨_, rfl⟩
  have HNB := hide hnb
  rw [← hnb] at HBK ⊢
  clear hnb
  obtain ⟨c0, f0⟩ := cell_of (j := 0) (u := .slice a n c) HS.out.blk rfl
  obtain ⟨b0, g0⟩ := cell_of (j := 0) (u := .string ⟨#[]⟩) HBK.out rfl
  obtain ⟨b1, g1⟩ := cell_of (j := 1) (u := .string ⟨#[]⟩) HBK.out rfl
  obtain ⟨b2, g2⟩ := cell_of (j := 2) (u := .int .i64 0) HBK.out rfl
  have FIN : Hid (∀ (p q r : Value), Below w.heap.size w (((w1.setCell ⟨nb, 0, none⟩ p).setCell ⟨nb, 1, none⟩ q).setCell ⟨nb, 2, none⟩ r) ∧ (((w1.setCell ⟨nb, 0, none⟩ p).setCell ⟨nb, 1, none⟩ q).setCell ⟨nb, 2, none⟩ r).heap[nb]? = some (Obj.cells #[p, q, r] 111 (0, 0))) := by
    intro p q r
    exact ⟨below_set (below_set (below_set HB1.out (by rw [HNB.out]; exact Nat.le_refl _)) (by rw [HNB.out]; exact Nat.le_refl _)) (by rw [HNB.out]; exact Nat.le_refl _), setCell_blk (setCell_blk (setCell_blk HBK.out))⟩
  go_loop [6] (fun i => ∃ k : Nat, k ≤ n ∧ i = .int .i64 k ∧ ∀ j, j < k → (fs.getD j fl0).name ≠ x) (fun i => n - (intOf i).toNat)
  case atStart => exact ⟨0, Nat.zero_le _, rfl, fun j hj => absurd hj (Nat.not_lt_zero _)⟩
  case round =>
    obtain ⟨k, hk, rfl, hno⟩ := hrel
    have HNO := hide hno
    clear hno
    by_cases hlt : k < n
    · have ho := HS.out.own
      rw [HN.out] at ho
      obtain ⟨g, rfl⟩ := own_some ho (by omega)
      obtain ⟨d0, d1, d2⟩ := own_fl ho HN.out hlt
      clear ho
      obtain ⟨f, hf⟩ : ∃ f, f = fs.getD k fl0 := ⟨_, rfl⟩
      rw [← hf] at d0 d1 d2
      have HF := hide hf
      clear hf
      obtain ⟨nm, dt, sf⟩ := f
      simp only at d0 d1 d2
      by_cases hx : nm = x
      · subst hx
        have HAT : Hid (At fs nm (k : Int)) := Or.inr ⟨k, by rw [HN.out]; exact hlt, rfl, by rw [← HF.out], HNO.out⟩
        have hfl : Hid (flAt fs (k : Int) = ⟨nm, dt, sf⟩) := by show _ = _; unfold flAt; rw [if_neg (by omega), Int.toNat_natCast, ← HF.out]
        have hld := run_loadVar_row (P := Tryz.prog) _ nb 111 111 _ _ _ (FIN.out (.string nm) (.string dt) (.int .i64 (sf : Int))).2 Tryz.underlying111 rfl hsz
        have HLD := hide hld
        clear hld
        go_wp2
        (try simp only [Exit.inBlock, Exit.then])
        refine bodyPost_ret (v := .tuple #[.agg #[.string nm, .string dt, .int .i64 (sf : Int)], .bool true]) ?_ rfl ⟨(k : Int), HAT.out, by rw [hfl.out, show decide ((0 : Int) ≤ (k : Int)) = true from decide_eq_true (by omega)], (FIN.out _ _ _).1⟩
        have hld := HLD.out
        rw [results_cell_tmp rfl]
        simp [asAddr, Result.andThen, hld]
      · have HX := hide hx
        have q := eqS_false hx
        clear hx
        go_wp2
        go_round
        case rel => exact ⟨k + 1, by omega, by go_num, fun j hj => by
          by_cases c : j = k
          · subst c; rw [← HF.out]; exact HX.out
          · exact HNO.out j (by omega)⟩
        case measure => simp [intOf]; omega
    · have HAT : Hid (At fs x (-1)) := Or.inl ⟨rfl, fun j hj => HNO.out j (by rw [HN.out] at hj; omega)⟩
      have hld := run_loadVar_row (P := Tryz.prog) _ nb 111 111 _ _ _ (FIN.out (.string ⟨#[]⟩) (.string ⟨#[]⟩) (.int .i64 0)).2 Tryz.underlying111 rfl hsz
      have HLD := hide hld
      clear hld
      go_wp2
      (try simp only [Exit.inBlock, Exit.then])
      refine bodyPost_ret (v := .tuple #[.agg #[.string ⟨#[]⟩, .string ⟨#[]⟩, .int .i64 0], .bool false]) ?_ rfl ⟨-1, HAT.out, rfl, (FIN.out _ _ _).1⟩
      have hld := HLD.out
      rw [results_cell_tmp rfl]
      simp [asAddr, Result.andThen, hld]

theorem new_blk (w : World) (cs : Array Value) (t : TypeId) : (w.alloc (Obj.cells cs t)).heap[w.heap.size]? = some (Obj.cells cs t (0, 0)) := by
  show (w.heap.push _)[w.heap.size]? = _
  rw [Array.getElem?_push, if_pos rfl]
theorem old_blk {w : World} {g : Nat} {D : Obj} (o : Obj) (h : w.heap[g]? = some D) : (w.alloc o).heap[g]? = some D := by
  rw [_root_.Go.heap_alloc_old w o (Array.getElem?_eq_some_iff.1 h).1]; exact h

set_option maxHeartbeats 1000000 in
theorem refNew_any (w : World) (B : Nat) (hB : B ≤ w.heap.size) : Calls Tryz.prog 14 #[] w fun e w' => ∃ b, e = .returned (.pointer (some ⟨b, 0, none⟩)) ∧ w.heap.size ≤ b ∧ Below w.heap.size w w' ∧ St 107 111 w' B b [] (-1) (.slice none 0 0) := by
  go_enter Tryz.func14, Tryz.ntmps14
  go_wp2
  go_ret
  exact ⟨_, rfl, Nat.le_refl _, below_alloc w _, new_blk w _ _, World.ownsRow_nil _ _ _ _, hB⟩

set_option maxHeartbeats 1000000 in
theorem apiNew_any (w : World) (B : Nat) (hB : B ≤ w.heap.size) : Calls Tryz.prog 13 #[] w fun e w' => ∃ d h b, e = .returned (.tuple #[.pointer (some ⟨d, 0, none⟩), .pointer (some ⟨h, 0, none⟩)]) ∧ w.heap.size ≤ b ∧ w.heap.size ≤ d ∧ w.heap.size ≤ h ∧ Below w.heap.size w w' ∧ St 100 109 w' B b [] (-1) (.slice none 0 0) ∧ Ptr 102 w' d b ∧ Ptr 104 w' h b := by
  have k1 := new_blk w #[.slice none 0 0, .int .i64 (-1)] 100
  have hb1 := below_alloc w (Obj.cells #[.slice none 0 0, .int .i64 (-1)] 100)
  have k2 := new_blk (w.alloc (Obj.cells #[.slice none 0 0, .int .i64 (-1)] 100)) #[.pointer (some ⟨w.heap.size, 0, none⟩)] 102
  have hb2 := below_alloc (w.alloc (Obj.cells #[.slice none 0 0, .int .i64 (-1)] 100)) (Obj.cells #[.pointer (some ⟨w.heap.size, 0, none⟩)] 102)
  have k3 := new_blk ((w.alloc (Obj.cells #[.slice none 0 0, .int .i64 (-1)] 100)).alloc (Obj.cells #[.pointer (some ⟨w.heap.size, 0, none⟩)] 102)) #[.pointer (some ⟨w.heap.size, 0, none⟩)] 104
  have hb3 := below_alloc ((w.alloc (Obj.cells #[.slice none 0 0, .int .i64 (-1)] 100)).alloc (Obj.cells #[.pointer (some ⟨w.heap.size, 0, none⟩)] 102)) (Obj.cells #[.pointer (some ⟨w.heap.size, 0, none⟩)] 104)
  have K1 := hide (old_blk (Obj.cells #[.pointer (some ⟨w.heap.size, 0, none⟩)] 104) (old_blk (Obj.cells #[.pointer (some ⟨w.heap.size, 0, none⟩)] 102) k1))
  have K2 := hide (old_blk (Obj.cells #[.pointer (some ⟨w.heap.size, 0, none⟩)] 104) k2)
  have K3 := hide k3
  have HB := hide ((hb1.trans (hb2.mono hb1.size)).trans (hb3.mono (hb1.trans (hb2.mono hb1.size)).size))
  clear k1 k2 k3 hb1 hb2 hb3
  go_enter Tryz.func13, Tryz.ntmps13
  go_wp2
  go_ret2
  exact ⟨_, _, _, rfl, Nat.le_refl _, by first | omega | simp, by first | omega | (simp; omega), HB.out, ⟨K1.out, World.ownsRow_nil _ _ _ _, hB⟩, by have := K2.out; simpa [Ptr] using this, by have := K3.out; simpa [Ptr] using this⟩
end Go.Proofs.YtkncboinfcnklaaGreatDoor

namespace Go.Proofs.YtkncboinfcnklaaGreatDoor
open Go.RowKit Go.Deep Go.Proofs.YtkncboinfcnklaaGreatDoor.Mth

theorem at_len {fs : List Fl} {x : ByteArray} {r : Int} (h : At fs x r) : (r = -1) ∨ (0 ≤ r ∧ r < fs.length) := by
  rcases h with ⟨rfl, _⟩ | ⟨i, hi, rfl, _⟩
  · exact Or.inl rfl
  · exact Or.inr ⟨by omega, by omega⟩
theorem at_one {fs : List Fl} {x : ByteArray} {r r' : Int} (h : At fs x r) (h' : At fs x r') : r = r' := by
  rcases h with ⟨rfl, h⟩ | ⟨i, hi, rfl, hn, h⟩
  · rcases h' with ⟨rfl, _⟩ | ⟨j, hj, rfl, hm, _⟩
    · rfl
    · exact absurd hm (h j hj)
  · rcases h' with ⟨rfl, h'⟩ | ⟨j, hj, rfl, hm, h'⟩
    · exact absurd hn (h' i hi)
    · rcases Nat.lt_trichotomy i j with q | q | q
      · exact absurd hn (h' i q)
      · rw [q]
      · exact absurd hm (h j q)
theorem at_ex : ∀ (fs : List Fl) (x : ByteArray), ∃ r, At fs x r
  | [], x => ⟨-1, Or.inl ⟨rfl, fun j hj => absurd hj (Nat.not_lt_zero _)⟩⟩
  | f :: fs, x => by
    by_cases hf : f.name = x
    · exact ⟨0, Or.inr ⟨0, by simp, rfl, by simpa using hf, fun j hj => absurd hj (Nat.not_lt_zero _)⟩⟩
    · obtain ⟨r, hr⟩ := at_ex fs x
      rcases hr with ⟨rfl, h⟩ | ⟨i, hi, rfl, hn, h⟩
      · refine ⟨-1, Or.inl ⟨rfl, fun j hj => ?_⟩⟩
        cases j with
        | zero => simpa using hf
        | succ j => simpa using h j (by simpa using hj)
      · refine ⟨((i + 1 : Nat) : Int), Or.inr ⟨i + 1, by simpa using hi, rfl, by simpa using hn, fun j hj => ?_⟩⟩
        cases j with
        | zero => simpa using hf
        | succ j => simpa using h j (by omega)

theorem plus_at (a b : ByteArray) (w : World) (h : a.size + b.size ≤ 70368744177664) : (Op.stringOp .add a b).run Tryz.prog w = .ok (.string (a ++ b)) w := run_string_add_sum (P := Tryz.prog) w _ _ (by omega)

/-! ### the document's disk: its steps -/
def rApp (fs : List Fl) (x t : ByteArray) (r : Int) : List Fl := wo x fs ++ [⟨x, (flAt fs r).data ++ t, (flAt fs r).safe⟩]
def rSync (fs : List Fl) (x : ByteArray) (r : Int) : List Fl := if r < 0 then fs else wo x fs ++ [⟨x, (flAt fs r).data, (flAt fs r).data.size⟩]
def rRen (fs : List Fl) (x y : ByteArray) (r : Int) : List Fl := if r < 0 then fs else wo y (wo x fs) ++ [⟨y, (flAt fs r).data, (flAt fs r).safe⟩]

set_option maxHeartbeats 1000000 in
theorem refAppend_no {w : World} {B b : Nat} {fs : List Fl} {fv : Value} (h : St 107 111 w B b fs 0 fv) (x t : ByteArray) :
    Calls Tryz.prog 32 #[.pointer (some ⟨b, 0, none⟩), .string x, .string t] w fun e w' => e = .returned (.bool false) ∧ Stp 107 111 B b w w' fv fs 0 fv := by
  have CS := hide (refStep_any h (by omega) (by omega))
  rw [show decide ((0 : Int) ≠ 0) = false from by decide, show decL 0 = 0 from rfl] at CS
  clear h
  go_enter Tryz.func32, Tryz.ntmps32
  go_wp2_with fail
  refine CS.out.mono ?_
  rintro e w1 ⟨rfl, hs⟩
  have HT := hide hs
  clear hs CS
  go_wp2
  go_ret
  exact ⟨rfl, HT.out⟩

set_option maxHeartbeats 2000000 in
theorem refAppend_yes {w : World} {B b : Nat} {fs : List Fl} {left : Int} {fv : Value} (h : St 107 111 w B b fs left fv) (hB : B ≤ w.heap.size) (h1 : -1 ≤ left) (h2 : left < 9223372036854775808) (q : left ≠ 0) (hl : fs.length ≤ 4194304) (x t : ByteArray) (r : Int) (hr : At fs x r) (hs : (flAt fs r).data.size + t.size ≤ 70368744177664) :
    Calls Tryz.prog 32 #[.pointer (some ⟨b, 0, none⟩), .string x, .string t] w fun e w' => e = .returned (.bool true) ∧ ∃ fv', Stp 107 111 B b w w' fv (rApp fs x t r) (decL left) fv' := by
  have CS := hide (refStep_any h h1 h2)
  rw [decide_eq_true q] at CS
  have HR := hide hr
  generalize decL left = l1 at *
  generalize hfs : rApp fs x t r = fs' at *
  have HFS := hide hfs
  have HSZ := hide hs
  clear h h1 h2 q hfs hr hs
  go_enter Tryz.func32, Tryz.ntmps32
  go_wp2_with fail
  refine CS.out.mono ?_
  rintro e w1 ⟨rfl, hs⟩
  have HT := hide hs
  have CF := hide (file_any hs.st x)
  clear hs CS
  go_wp2_with fail
  refine CF.out.mono ?_
  rintro e w2 ⟨r', hr, rfl, hb⟩
  have hrr := at_one HR.out hr
  subst hrr
  have HT2 := hide (HT.out.below hb)
  clear hr hb CF HT
  generalize hf : flAt fs r = f at *
  have HF := hide hf
  obtain ⟨nm, dt, sf⟩ := f
  dsimp only at HSZ ⊢
  have HB3 := hide (below_alloc w2 (Obj.cells #[.string nm, .string dt, .int .i64 (sf : Int)] 111))
  have hsz2 := HT2.out.tch.size
  have CP := hide (put_any (HT2.out.st.below HB3.out) ⟨x, dt ++ t, sf⟩ hl (by simp; omega))
  dsimp only at CP
  have hadd := fun w => plus_at dt t w HSZ.out
  generalize hdt : dt ++ t = dd at *
  have HDT := hide hdt
  clear hf hdt
  go_wp2_with (first | (go_at_call 79; refine CP.out.mono ?_; rintro e w3 ⟨rfl, fv3, hs3⟩; have HT3 := hide (HT2.out.trans (Stp.pre HB3.out hs3)); clear hs3))
  go_ret
  exact ⟨rfl, fv3, by rw [← HFS.out]; unfold rApp; rw [HF.out]; dsimp only; rw [HDT.out]; exact HT3.out⟩
end Go.Proofs.YtkncboinfcnklaaGreatDoor

namespace Go.Proofs.YtkncboinfcnklaaGreatDoor
open Go.RowKit Go.Deep Go.Proofs.YtkncboinfcnklaaGreatDoor.Mth

set_option maxHeartbeats 1000000 in
theorem refSync_no {w : World} {B b : Nat} {fs : List Fl} {fv : Value} (h : St 107 111 w B b fs 0 fv) (x : ByteArray) :
    Calls Tryz.prog 34 #[.pointer (some ⟨b, 0, none⟩), .string x] w fun e w' => e = .returned (.bool false) ∧ Stp 107 111 B b w w' fv fs 0 fv := by
  have CS := hide (refStep_any h (by omega) (by omega))
  rw [show decide ((0 : Int) ≠ 0) = false from by decide, show decL 0 = 0 from rfl] at CS
  clear h
  go_enter Tryz.func34, Tryz.ntmps34
  go_wp2_with fail
  refine CS.out.mono ?_
  rintro e w1 ⟨rfl, hs⟩
  have HT := hide hs
  have CF := hide (file_any hs.st x)
  clear hs CS
  go_wp2_with fail
  refine CF.out.mono ?_
  rintro e w2 ⟨r', hr, rfl, hb⟩
  have HT2 := hide (HT.out.below hb)
  clear hr hb CF HT
  generalize flAt fs r' = f at *
  generalize decide (0 ≤ r') = is at *
  obtain ⟨nm, dt, sf⟩ := f
  dsimp only
  have HT3 := hide (HT2.out.below (below_alloc w2 (Obj.cells #[.string nm, .string dt, .int .i64 (sf : Int)] 111)))
  go_wp2
  go_ret
  exact ⟨rfl, HT3.out⟩

set_option maxHeartbeats 2000000 in
theorem refSync_yes {w : World} {B b : Nat} {fs : List Fl} {left : Int} {fv : Value} (h : St 107 111 w B b fs left fv) (hB : B ≤ w.heap.size) (h1 : -1 ≤ left) (h2 : left < 9223372036854775808) (q : left ≠ 0) (hl : fs.length ≤ 4194304) (x : ByteArray) (r : Int) (hr : At fs x r) :
    Calls Tryz.prog 34 #[.pointer (some ⟨b, 0, none⟩), .string x] w fun e w' => e = .returned (.bool true) ∧ ∃ fv', Stp 107 111 B b w w' fv (rSync fs x r) (decL left) fv' := by
  have CS := hide (refStep_any h h1 h2)
  rw [decide_eq_true q] at CS
  have HR := hide hr
  generalize decL left = l1 at *
  generalize hfs : rSync fs x r = fs' at *
  have HFS := hide hfs
  clear h h1 h2 q hfs hr
  go_enter Tryz.func34, Tryz.ntmps34
  go_wp2_with fail
  refine CS.out.mono ?_
  rintro e w1 ⟨rfl, hs⟩
  have HT := hide hs
  have CF := hide (file_any hs.st x)
  clear hs CS
  go_wp2_with fail
  refine CF.out.mono ?_
  rintro e w2 ⟨r', hr, rfl, hb⟩
  have hrr := at_one HR.out hr
  subst hrr
  have HT2 := hide (HT.out.below hb)
  clear hb CF HT
  rcases at_len hr with hneg | ⟨hpos, _⟩
  · clear hr
    have e1 : decide (0 ≤ r) = false := by simp; omega
    have e2 : Hid (fs' = fs) := by show _ = _; rw [← HFS.out]; unfold rSync; rw [if_pos (by omega)]
    rw [e1]
    clear e1 hneg
    generalize flAt fs r = f at *
    obtain ⟨nm, dt, sf⟩ := f
    dsimp only
    have HT3 := hide (HT2.out.below (below_alloc w2 (Obj.cells #[.string nm, .string dt, .int .i64 (sf : Int)] 111)))
    go_wp2
    go_ret
    exact ⟨rfl, fv, by rw [e2.out]; exact HT3.out⟩
  · clear hr
    have e1 : decide (0 ≤ r) = true := by simp; omega
    have HNN : Hid (0 ≤ r) := hpos
    rw [e1]
    clear e1 hpos
    generalize hf : flAt fs r = f at *
    have HF := hide hf
    obtain ⟨nm, dt, sf⟩ := f
    dsimp only
    have HB3 := hide (below_alloc w2 (Obj.cells #[.string nm, .string dt, .int .i64 (sf : Int)] 111))
    have hsz2 := HT2.out.tch.size
    have CP := hide (put_any (HT2.out.st.below HB3.out) ⟨x, dt, dt.size⟩ hl (by simp; omega))
    dsimp only at CP
    clear hf
    go_wp2_with (first | (go_at_call 79; refine CP.out.mono ?_; rintro e w3 ⟨rfl, fv3, hs3⟩; have HT3 := hide (HT2.out.trans (Stp.pre HB3.out hs3)); clear hs3))
    go_ret
    exact ⟨rfl, fv3, by rw [← HFS.out]; unfold rSync; rw [if_neg (Int.not_lt.2 HNN.out), HF.out]; exact HT3.out⟩

set_option maxHeartbeats 1000000 in
theorem refRename_no {w : World} {B b : Nat} {fs : List Fl} {fv : Value} (h : St 107 111 w B b fs 0 fv) (x y : ByteArray) :
    Calls Tryz.prog 36 #[.pointer (some ⟨b, 0, none⟩), .string x, .string y] w fun e w' => e = .returned (.bool false) ∧ Stp 107 111 B b w w' fv fs 0 fv := by
  have CS := hide (refStep_any h (by omega) (by omega))
  rw [show decide ((0 : Int) ≠ 0) = false from by decide, show decL 0 = 0 from rfl] at CS
  clear h
  go_enter Tryz.func36, Tryz.ntmps36
  go_wp2_with fail
  refine CS.out.mono ?_
  rintro e w1 ⟨rfl, hs⟩
  have HT := hide hs
  have CF := hide (file_any hs.st x)
  clear hs CS
  go_wp2_with fail
  refine CF.out.mono ?_
  rintro e w2 ⟨r', hr, rfl, hb⟩
  have HT2 := hide (HT.out.below hb)
  clear hr hb CF HT
  generalize flAt fs r' = f at *
  generalize decide (0 ≤ r') = is at *
  obtain ⟨nm, dt, sf⟩ := f
  dsimp only
  have HT3 := hide (HT2.out.below (below_alloc w2 (Obj.cells #[.string nm, .string dt, .int .i64 (sf : Int)] 111)))
  go_wp2
  go_ret
  exact ⟨rfl, HT3.out⟩

set_option maxHeartbeats 2000000 in
theorem refRename_yes {w : World} {B b : Nat} {fs : List Fl} {left : Int} {fv : Value} (h : St 107 111 w B b fs left fv) (hB : B ≤ w.heap.size) (h1 : -1 ≤ left) (h2 : left < 9223372036854775808) (q : left ≠ 0) (hl : fs.length ≤ 4194304) (x y : ByteArray) (r : Int) (hr : At fs x r) :
    Calls Tryz.prog 36 #[.pointer (some ⟨b, 0, none⟩), .string x, .string y] w fun e w' => e = .returned (.bool true) ∧ ∃ fv', Stp 107 111 B b w w' fv (rRen fs x y r) (decL left) fv' := by
  have CS := hide (refStep_any h h1 h2)
  rw [decide_eq_true q] at CS
  have HR := hide hr
  generalize decL left = l1 at *
  generalize hfs : rRen fs x y r = fs' at *
  have HFS := hide hfs
  clear h h1 h2 q hfs hr
  go_enter Tryz.func36, Tryz.ntmps36
  go_wp2_with fail
  refine CS.out.mono ?_
  rintro e w1 ⟨rfl, hs⟩
  have HT := hide hs
  have CF := hide (file_any hs.st x)
  clear hs CS
  go_wp2_with fail
  refine CF.out.mono ?_
  rintro e w2 ⟨r', hr, rfl, hb⟩
  have hrr := at_one HR.out hr
  subst hrr
  have HT2 := hide (HT.out.below hb)
  clear hb CF HT
  rcases at_len hr with hneg | ⟨hpos, _⟩
  · clear hr
    have e1 : decide (0 ≤ r) = false := by simp; omega
    have e2 : Hid (fs' = fs) := by show _ = _; rw [← HFS.out]; unfold rRen; rw [if_pos (by omega)]
    rw [e1]
    clear e1 hneg
    generalize flAt fs r = f at *
    obtain ⟨nm, dt, sf⟩ := f
    dsimp only
    have HT3 := hide (HT2.out.below (below_alloc w2 (Obj.cells #[.string nm, .string dt, .int .i64 (sf : Int)] 111)))
    go_wp2
    go_ret
    exact ⟨rfl, fv, by rw [e2.out]; exact HT3.out⟩
  · clear hr
    have e1 : decide (0 ≤ r) = true := by simp; omega
    have HNN : Hid (0 ≤ r) := hpos
    rw [e1]
    clear e1 hpos
    generalize hf : flAt fs r = f at *
    have HF := hide hf
    obtain ⟨nm, dt, sf⟩ := f
    dsimp only
    have HB3 := hide (below_alloc w2 (Obj.cells #[.string nm, .string dt, .int .i64 (sf : Int)] 111))
    have hsz2 := HT2.out.tch.size
    have HBK := hide (new_blk w2 #[.string nm, .string dt, .int .i64 (sf : Int)] 111)
    have hlt3 : w2.heap.size < (w2.alloc (Obj.cells #[.string nm, .string dt, .int .i64 (sf : Int)] 111)).heap.size := by simp
    have HS3 := hide (HT2.out.st.below HB3.out)
    have HT3 := hide (HT2.out.below HB3.out)
    have CW := hide (refWithout_any HS3.out x hl)
    clear hf
    go_wp2_with fail
    generalize w2.alloc (Obj.cells #[.string nm, .string dt, .int .i64 (sf : Int)] 111) = w3 at *
    obtain ⟨nb, hnb0⟩ : ∃ nb, nb = w2.heap.size := ⟨_, rfl⟩
    have HNB : Hid (w.heap.size ≤ nb) := by show _ ≤ _; omega
    rw [← hnb0] at HBK hlt3 ⊢
    clear hnb0
    refine CW.out.mono ?_
    rintro e w4 ⟨v4, rfl, hc4⟩
    obtain ⟨a4, c4, rfl, _, _⟩ := own_slice hc4.2
    have hsz3 := HT3.out.tch.size
    have HT4 := hide (HS3.out.setFresh (by decide) (by omega) hc4)
    obtain ⟨k0, kf⟩ := cell_of (j := 0) (u := fv) (HS3.out.below hc4.1).blk rfl
    have hsz4 := hc4.1.size
    have hne : nb ≠ b := by
      intro q
      subst q
      have := HS3.out.blk
      rw [HBK.out] at this
      injection this with this
      injection this with _ this _
      exact absurd this (by decide)
    have HK4 : Hid ((w4.setCell ⟨b, 0, none⟩ (.slice a4 (wo x fs).length c4)).heap[nb]? = some (Obj.cells #[.string nm, .string dt, .int .i64 (sf : Int)] 111 (0, 0))) := by
      show _ = _
      rw [set_other hne, hc4.1.block nb hlt3]
      exact HBK.out
    obtain ⟨m0, mf0⟩ := cell_of (j := 0) (u := .string nm) HK4.out rfl
    obtain ⟨m1, _⟩ := cell_of (j := 1) (u := .string dt) HK4.out rfl
    obtain ⟨m2, _⟩ := cell_of (j := 2) (u := .int .i64 (sf : Int)) HK4.out rfl
    have HTT := hide (HT3.out.trans HT4.out)
    have hge4 : Hid (∀ g, some g = (Value.slice a4 (wo x fs).length c4).ownBlock → g ≠ nb) := fun g hg q => by have := (own_block hc4.2 hg).1; omega
    have hnb : Hid (w.heap.size ≤ nb) := HNB.out
    have HS6 : Hid (Stp 107 111 B b w ((w4.setCell ⟨b, 0, none⟩ (.slice a4 (wo x fs).length c4)).setCell ⟨nb, 0, none⟩ (.string y)) fv (wo x fs) l1 (.slice a4 (wo x fs).length c4)) := by
      refine ⟨HTT.out.st.same fun g hg => set_other ?_, ⟨HTT.out.tch.os, HTT.out.tch.tape, HTT.out.tch.output, by have := HTT.out.tch.size; simpa using this, fun k hk hn => ?_⟩, HTT.out.new⟩
      · rcases hg with rfl | hg
        · exact fun q => hne q.symm
        · exact hge4.out g hg
      · rw [set_other (by have := hnb.out; omega)]
        exact HTT.out.tch.block k hk hn
    have CP := hide (put_any HS6.out.st ⟨y, dt, sf⟩ (Nat.le_trans (wo_len _ _) hl) (Nat.le_trans hB HS6.out.tch.size))
    dsimp only at CP
    clear hc4 CW HTT HK4 hge4
    generalize hlm : (wo x fs).length = lm at *
    clear hlm
    go_wp2_with (first | (go_at_call 79; refine CP.out.mono ?_; rintro e w7 ⟨rfl, fv7, hs7⟩; have HT7 := hide (HS6.out.trans hs7); clear hs7))
    go_ret
    exact ⟨rfl, fv7, by rw [← HFS.out]; unfold rRen; rw [if_neg (Int.not_lt.2 HNN.out), HF.out]; exact HT7.out⟩

set_option maxHeartbeats 1000000 in
theorem refRemove_no {w : World} {B b : Nat} {fs : List Fl} {fv : Value} (h : St 107 111 w B b fs 0 fv) (x : ByteArray) :
    Calls Tryz.prog 38 #[.pointer (some ⟨b, 0, none⟩), .string x] w fun e w' => e = .returned (.bool false) ∧ Stp 107 111 B b w w' fv fs 0 fv := by
  have CS := hide (refStep_any h (by omega) (by omega))
  rw [show decide ((0 : Int) ≠ 0) = false from by decide, show decL 0 = 0 from rfl] at CS
  clear h
  go_enter Tryz.func38, Tryz.ntmps38
  go_wp2_with fail
  refine CS.out.mono ?_
  rintro e w1 ⟨rfl, hs⟩
  have HT := hide hs
  clear hs CS
  go_wp2
  go_ret
  exact ⟨rfl, HT.out⟩

set_option maxHeartbeats 2000000 in
theorem refRemove_yes {w : World} {B b : Nat} {fs : List Fl} {left : Int} {fv : Value} (h : St 107 111 w B b fs left fv) (hB : B ≤ w.heap.size) (h1 : -1 ≤ left) (h2 : left < 9223372036854775808) (q : left ≠ 0) (hl : fs.length ≤ 4194304) (x : ByteArray) :
    Calls Tryz.prog 38 #[.pointer (some ⟨b, 0, none⟩), .string x] w fun e w' => e = .returned (.bool true) ∧ ∃ fv', Stp 107 111 B b w w' fv (wo x fs) (decL left) fv' := by
  have CS := hide (refStep_any h h1 h2)
  rw [decide_eq_true q] at CS
  generalize decL left = l1 at *
  clear h h1 h2 q
  go_enter Tryz.func38, Tryz.ntmps38
  go_wp2_with fail
  refine CS.out.mono ?_
  rintro e w1 ⟨rfl, hs⟩
  have HT := hide hs
  have CW := hide (refWithout_any hs.st x hl)
  clear hs CS
  go_wp2_with fail
  refine CW.out.mono ?_
  rintro e w4 ⟨v4, rfl, hc4⟩
  obtain ⟨a4, c4, rfl, _, _⟩ := own_slice hc4.2
  have hsz3 := HT.out.tch.size
  have HT4 := hide (HT.out.trans (HT.out.st.setFresh (by decide) (by omega) hc4))
  obtain ⟨k0, kf⟩ := cell_of (j := 0) (u := fv) (HT.out.st.below hc4.1).blk rfl
  clear hc4 CW
  go_wp2
  go_ret
  exact ⟨rfl, _, HT4.out⟩
end Go.Proofs.YtkncboinfcnklaaGreatDoor

namespace Go.Proofs.YtkncboinfcnklaaGreatDoor
open Go.RowKit Go.Deep Go.Proofs.YtkncboinfcnklaaGreatDoor.Mth

theorem step_own_at {P : Program} (w : World) {ops : Array Oper} {o : Oper} {a : Act} {K : Act → World → Prop} {Q : Exit → Act → World → Prop} {E : Prop} (hgd : o.guard = none) (s x : Operand) (t : TypeId)
    (ho : o.op = .call { callee := .builtin .append, args := #[s, x], argTypes := #[t, t] })
    (base : Nat) (e : TypeId) (i : TypeInfo) (z : Value) (size bytes : Nat) (ht : P.underlying t = some (.slice e)) (hi : P.info? e = some i) (hz : i.zero = some z)
    (hsize : i.size = size) (hby : i.bytes = bytes) (hzs : z.cells.size = size) (hsz : 0 < size)
    (v : Value) (n : Nat) (xs : List Value) (hs : a.eval s = v) (hown : w.ownsRow base e size v n xs)
    (ad : Addr) (m c : Nat) (news : List Value) (hx : a.eval x = .slice (some ad) m c) (hl : news.length = m * size) (hnews : ∀ j u, news[j]? = some u → w.cell? (ad.add j) = some u) (h1 : ∀ u ∈ news, u.oneCell' = true)
    (h63 : n + m ≤ maxLen) (hbytes : (n + m) * bytes ≤ 140737488355328) (hbase : base ≤ w.heap.size)
    (h : ∀ v' w', w'.ownsRow base e size v' (n + m) (xs ++ news) → w.grownBy w' v.ownBlock → (v'.ownBlock = v.ownBlock ∨ v'.ownBlock = some w.heap.size) → K (a.put o.dst v') w') :
    if Region.wanted o (yielded ops a.tmps) = true then Oper.wp P o a w K Q else E := by
  have hw : Region.wanted o (yielded ops a.tmps) = true := by simp [Region.wanted, hgd]
  rw [if_pos hw]
  obtain ⟨v', w', hr, h2, h3, h4, h5⟩ := run_append_own_at (P := P) w base t o.type e i z size bytes ht hi hz hsize hby hzs hsz v n xs hown ad m c news hl hnews h1 h63 hbytes hbase
  unfold Oper.wp execOp
  simp only [ho, resolve, invoke, builtin, Sem.run_bind, Sem.run_pure, Result.andThen_ok, List.map_toArray, List.map_cons, List.map_nil, hs, hx, hr]
  exact h v' w' h2 h3 h5

theorem St.appended {T e : TypeId} {W W5 : World} {B b : Nat} {fs : List Fl} {left : Int} {fv v5 : Value} {f : Fl} {o : Obj} (h : St T e W B b fs left fv) (hT : T ≠ e) (o5 : W5.ownsRow B e 3 v5 (fs.length + 1) (fs.flatMap fC ++ fC f)) (g : (W.alloc o).grownBy W5 fv.ownBlock) (h5 : v5.ownBlock = fv.ownBlock ∨ v5.ownBlock = some (W.alloc o).heap.size) : Stp T e B b W (W5.setCell ⟨b, 0, none⟩ v5) fv (fs ++ [f]) left v5 := by
  refine h.setFiles hT (by simpa [List.flatMap_append] using o5) ⟨g.os, g.tape, g.output, by have := g.size; simp at this; omega, fun k hk hn => ?_⟩ (fun k hk => ?_)
  · rw [g.block k (by simp; omega) hn, _root_.Go.heap_alloc_old W o (r := k) hk]
  · rcases h5 with q | q
    · rw [q] at hk; exact Or.inl hk
    · rw [q] at hk; injection hk with hk; right; rw [hk]; simp

theorem Ptr.keep {T T' e : TypeId} {w w' : World} {B b d : Nat} {fs : List Fl} {left : Int} {fv : Value} (hp : Ptr T w d b) (h : St T' e w B b fs left fv) (ht : Tch (ownD b fv) w w') (h1 : T ≠ T') (h2 : T ≠ e) : Ptr T w' d b := by
  refine (ht.block d (Array.getElem?_eq_some_iff.1 hp).1 (fun q => ?_)).trans hp
  rcases q with q | q
  · subst q
    have := h.blk
    rw [hp] at this
    injection this with this
    injection this with _ this _
    exact h1 this
  · obtain ⟨_, _, D, hD⟩ := own_block h.own q
    rw [hp] at hD
    injection hD with hD
    injection hD with _ hD _
    exact h2 hD
theorem Ptr.below {T : TypeId} {w w' : World} {d b : Nat} (hp : Ptr T w d b) (hb : Below w.heap.size w w') : Ptr T w' d b := (hb.block d (Array.getElem?_eq_some_iff.1 hp).1).trans hp

theorem fC_set1 : ∀ {l : List Fl} {k : Nat} (y : ByteArray), k < l.length → (l.flatMap fC).set (k * 3 + 1) (.string y) = (l.set k ⟨(l.getD k fl0).name, y, (l.getD k fl0).safe⟩).flatMap fC
  | f :: l, 0, y, _ => by simp [fC]
  | f :: l, k + 1, y, h => by
    have := fC_set1 (l := l) (k := k) y (by simpa using h)
    rw [List.flatMap_cons, List.set_append_right _ _ (by simp [fC]; omega), List.set_cons_succ, List.flatMap_cons, ← show (k * 3 + 1) = (k + 1) * 3 + 1 - (fC f).length by simp [fC]; omega, this]
    simp
theorem fC_set2 : ∀ {l : List Fl} {k : Nat} (y : Nat), k < l.length → (l.flatMap fC).set (k * 3 + 2) (.int .i64 (y : Int)) = (l.set k ⟨(l.getD k fl0).name, (l.getD k fl0).data, y⟩).flatMap fC
  | f :: l, 0, y, _ => by simp [fC]
  | f :: l, k + 1, y, h => by
    have := fC_set2 (l := l) (k := k) y (by simpa using h)
    rw [List.flatMap_cons, List.set_append_right _ _ (by simp [fC]; omega), List.set_cons_succ, List.flatMap_cons, ← show (k * 3 + 2) = (k + 1) * 3 + 2 - (fC f).length by simp [fC]; omega, this]
    simp

theorem St.store {T e : TypeId} {w : World} {B b g n c : Nat} {fs fs' : List Fl} {left : Int} {i : Nat} {y : Value} (h : St T e w B b fs left (.slice (some ⟨g, 0, none⟩) n c)) (hT : T ≠ e) (hn : fs.length = n) (hi : i < n * 3) (hf : fs'.length = n) (he : (fs.flatMap fC).set i y = fs'.flatMap fC) : Stp T e B b w (w.setCell ⟨g, i, none⟩ y) (.slice (some ⟨g, 0, none⟩) n c) fs' left (.slice (some ⟨g, 0, none⟩) n c) := by
  have hne : b ≠ g := fun q => h.ne hT (by simp [Value.ownBlock, q])
  have ho := h.own
  rw [hn] at ho
  have := own_store (y := y) ho hi
  rw [he] at this
  exact ⟨⟨by rw [set_other hne]; exact h.blk, by rw [hf]; exact this, h.ge⟩, ⟨rfl, rfl, rfl, by simp, fun k _ hk => set_other (fun q => hk (Or.inr (by simp [Value.ownBlock, q])))⟩, fun _ q => Or.inl q⟩

def setD (fs : List Fl) (k : Nat) (y : ByteArray) : List Fl := fs.set k ⟨(fs.getD k fl0).name, y, (fs.getD k fl0).safe⟩
def aApp (fs : List Fl) (x t : ByteArray) (r : Int) : List Fl := if r < 0 then fs ++ [⟨x, ⟨#[]⟩ ++ t, 0⟩] else setD fs r.toNat ((fs.getD r.toNat fl0).data ++ t)

theorem setD_last (fs : List Fl) (x y : ByteArray) : setD (fs ++ [⟨x, ⟨#[]⟩, 0⟩]) fs.length y = fs ++ [⟨x, y, 0⟩] := by
  unfold setD
  rw [List.set_append_right _ _ (Nat.le_refl _)]
  simp [List.getD]

set_option maxHeartbeats 1000000 in
theorem apiAppend_no {w : World} {B b d : Nat} {fs : List Fl} {fv : Value} (h : St 100 109 w B b fs 0 fv) (hp : Ptr 102 w d b) (x t : ByteArray) :
    Calls Tryz.prog 31 #[.pointer (some ⟨d, 0, none⟩), .string x, .string t] w fun e w' => e = .returned (.bool false) ∧ Stp 100 109 B b w w' fv fs 0 fv := by
  have CS := hide (apiStep_any h (by omega) (by omega))
  rw [show decide ((0 : Int) ≠ 0) = false from by decide, show decL 0 = 0 from rfl] at CS
  obtain ⟨p0, _⟩ := cell_of (j := 0) (u := .pointer (some ⟨b, 0, none⟩)) hp rfl
  clear h hp
  go_enter Tryz.func31, Tryz.ntmps31
  go_wp2_with fail
  refine CS.out.mono ?_
  rintro e w1 ⟨rfl, hs⟩
  have HT := hide hs
  clear hs CS
  go_wp2
  go_ret
  exact ⟨rfl, HT.out⟩

set_option maxRecDepth 100000 in
set_option maxHeartbeats 2000000 in
theorem apiAppend_yes {w : World} {B b d : Nat} {fs : List Fl} {left : Int} {fv : Value} (h : St 100 109 w B b fs left fv) (hp : Ptr 102 w d b) (hB : B ≤ w.heap.size) (h1 : -1 ≤ left) (h2 : left < 9223372036854775808) (q : left ≠ 0) (hl : fs.length ≤ 4194304) (x t : ByteArray) (r : Int) (hr : At fs x r) (hs : (flAt fs r).data.size + t.size ≤ 70368744177664) :
    Calls Tryz.prog 31 #[.pointer (some ⟨d, 0, none⟩), .string x, .string t] w fun e w' => e = .returned (.bool true) ∧ ∃ fv', Stp 100 109 B b w w' fv (aApp fs x t r) (decL left) fv' := by
  obtain ⟨i0, hi0, hz0, hz1, hz2⟩ := info_parts Tryz.info109
  have CS := hide (apiStep_any h h1 h2)
  rw [decide_eq_true q] at CS
  obtain ⟨p0, _⟩ := cell_of (j := 0) (u := .pointer (some ⟨b, 0, none⟩)) hp rfl
  have HR := hide hr
  have HP := hide hp
  have HS := hide h
  generalize decL left = l1 at *
  generalize hfs : aApp fs x t r = fs' at *
  have HFS := hide hfs
  have HSZ := hide hs
  clear h h1 h2 q hfs hr hs hp
  go_enter Tryz.func31, Tryz.ntmps31
  go_wp2_with fail
  refine CS.out.mono ?_
  rintro e w1 ⟨rfl, hs⟩
  have HT := hide hs
  have HP1 := hide (HP.out.keep HS.out hs.tch (by decide) (by decide))
  have CF := hide (find_any hs.st x)
  obtain ⟨p1, _⟩ := cell_of (j := 0) (u := .pointer (some ⟨b, 0, none⟩)) HP1.out rfl
  clear hs CS p0 HP HS
  go_wp2_with fail
  refine CF.out.mono ?_
  rintro e w2 ⟨r', rfl, hr, rfl⟩
  have hrr := at_one HR.out hr
  subst hrr
  have hsz2 := HT.out.tch.size
  clear CF
  obtain ⟨a, c, rfl, hc, hm⟩ := own_slice HT.out.st.own
  unfold maxLen at hm
  obtain ⟨c0, f0⟩ := cell_of (j := 0) (u := .slice a fs.length c) HT.out.st.blk rfl
  rcases hr with ⟨rfl, _⟩ | ⟨i, hi, rfl, _, _⟩
  · have HNB : Hid (some b ≠ (Value.slice a fs.length c).ownBlock) := HT.out.st.ne (by decide)
    have HND : Hid (some d ≠ (Value.slice a fs.length c).ownBlock) := by
      intro q
      obtain ⟨_, _, D, hD⟩ := own_block HT.out.st.own q
      rw [HP1.out] at hD
      injection hD with hD
      injection hD with _ hD _
      exact absurd hD (by decide)
    have c1 : (w2.alloc (Obj.cells #[.string x, .string ⟨#[]⟩, .int .i64 0] 109)).cell? ⟨b, 0, none⟩ = some (.slice a fs.length c) := ((below_alloc w2 _).cell (p := ⟨b, 0, none⟩) (World.block_lt_of_cell? _ _ c0)).trans c0
    have p2 : (w2.alloc (Obj.cells #[.string x, .string ⟨#[]⟩, .int .i64 0] 109)).cell? ⟨d, 0, none⟩ = some (.pointer (some ⟨b, 0, none⟩)) := ((below_alloc w2 _).cell (p := ⟨d, 0, none⟩) (World.block_lt_of_cell? _ _ p1)).trans p1
    have HFR : Hid (fs' = setD (fs ++ [⟨x, ⟨#[]⟩, 0⟩]) fs.length (⟨#[]⟩ ++ t)) := by
      show _ = _
      rw [setD_last, ← HFS.out]
      rfl
    have HDS : Hid ((ByteArray.size ⟨#[]⟩) + t.size ≤ 70368744177664) := HSZ.out
    have hadd := fun w => plus_at ⟨#[]⟩ t w HDS.out
    generalize hdd : (⟨#[]⟩ : ByteArray) ++ t = dd at *
    clear hdd HSZ HFS
    generalize hn : fs.length = n at *
    have HN := hide hn
    clear hn
    have HOW := HT.out.st.own
    rw [HN.out] at HOW
    have HOWN := hide HOW
    clear HOW
    go_wp2_with fail
    go_region_law (refine step_own_at _ rfl _ _ 98 rfl B 109 i0 (.agg #[.string ⟨#[]⟩, .string ⟨#[]⟩, .int .i64 0]) 3 40 Tryz.underlying98 hi0 hz0 hz1 hz2 rfl (by decide) _ _ _ rfl (by exact HOWN.out.alloc _) ⟨w2.heap.size, 0, none⟩ 1 1 [.string x, .string ⟨#[]⟩, .int .i64 0] rfl rfl (by exact cells_new _ _ _ _ rfl) (by intro u hu; simp at hu; rcases hu with rfl | rfl | rfl <;> rfl) (by unfold maxLen; omega) (by omega) (by simp; omega) ?_; intro v5 W5 o5 g5 n5; obtain ⟨a5, c5, rfl, _, _⟩ := own_slice o5; have g6 : (w2.alloc (Obj.cells #[.string x, .string ⟨#[]⟩, .int .i64 0] 109)).grownBy W5 (Value.slice a n c).ownBlock := ⟨g5.os, g5.tape, g5.output, g5.size, g5.block⟩; have KS := hide (HT.out.st.appended (f := ⟨x, ⟨#[]⟩, 0⟩) (by decide) (by rw [HN.out]; exact o5) g6 n5); obtain ⟨fb, ff⟩ := cell_of (j := 0) (u := .slice a n c) (beside g6 HT.out.st.blk HNB.out) rfl; obtain ⟨fd, _⟩ := cell_of (j := 0) (u := .pointer (some ⟨b, 0, none⟩)) (beside g6 HP1.out HND.out) rfl; clear o5 g5 g6 n5)
    all_goals (
      have HP3 := hide (HP1.out.keep HT.out.st KS.out.tch (by decide) (by decide))
      have hlen : (fs ++ [(⟨x, ⟨#[]⟩, 0⟩ : Fl)]).length = n + 1 := by simp [HN.out]
      have hown := KS.out.st.own
      rw [hlen] at hown
      obtain ⟨g5, rfl⟩ := own_some hown (by omega)
      have hgd : (fs ++ [(⟨x, ⟨#[]⟩, 0⟩ : Fl)]).getD n fl0 = ⟨x, ⟨#[]⟩, 0⟩ := by rw [← HN.out]; simp [List.getD]
      obtain ⟨_, e3, _⟩ := own_fl (k := n) hown hlen (by omega)
      rw [hgd] at e3
      obtain ⟨_, hfr⟩ := own_at (i := n * 3 + 1) hown (by omega)
      obtain ⟨e0, _⟩ := cell_of (j := 0) (u := .slice (some ⟨g5, 0, none⟩) (n + 1) c5) KS.out.st.blk rfl
      obtain ⟨e1, _⟩ := cell_of (j := 0) (u := .pointer (some ⟨b, 0, none⟩)) HP3.out rfl
      have ST2 := hide (KS.out.st.store (i := n * 3 + 1) (y := .string dd) (fs' := setD (fs ++ [(⟨x, ⟨#[]⟩, 0⟩ : Fl)]) n dd) (by decide) hlen (by omega) (by simp [setD, HN.out]) (fC_set1 dd (by omega)))
      clear hown hgd hlen c1 p2 c0 f0 p1 fb ff fd
      generalize W5.setCell ⟨b, 0, none⟩ (.slice (some ⟨g5, 0, none⟩) (n + 1) c5) = W6 at *
      go_wp2
      go_ret
      exact ⟨rfl, _, by rw [HFR.out, HN.out]; exact HT.out.trans (KS.out.trans ST2.out)⟩)
  · have HFR : Hid (fs' = setD fs i ((fs.getD i fl0).data ++ t)) := by
      show _ = _
      rw [← HFS.out]
      unfold aApp
      rw [if_neg (by omega), Int.toNat_natCast]
    have HDS : Hid ((fs.getD i fl0).data.size + t.size ≤ 70368744177664) := by
      have := HSZ.out
      unfold flAt at this
      rwa [if_neg (by omega), Int.toNat_natCast] at this
    have hown := HT.out.st.own
    obtain ⟨g, rfl⟩ := own_some hown (by omega)
    obtain ⟨_, e3, _⟩ := own_fl (k := i) hown rfl hi
    obtain ⟨_, hfr⟩ := own_at (i := i * 3 + 1) hown (by omega)
    generalize hdt : (fs.getD i fl0).data = dt at *
    have hadd := fun w => plus_at dt t w HDS.out
    generalize hdd : dt ++ t = dd at *
    have ST2 := hide (HT.out.st.store (i := i * 3 + 1) (y := .string dd) (fs' := setD fs i dd) (by decide) rfl (by omega) (by simp [setD]) (fC_set1 dd hi))
    clear hdt hdd hown HSZ
    generalize hn : fs.length = n at *
    have HN := hide hn
    clear hn
    go_wp2
    go_ret
    exact ⟨rfl, _, by rw [HFR.out]; first | exact HT.out.trans ST2.out | (rw [HN.out]; exact HT.out.trans ST2.out)⟩
end Go.Proofs.YtkncboinfcnklaaGreatDoor

namespace Go.Proofs.YtkncboinfcnklaaGreatDoor
open Go.RowKit Go.Deep Go.Proofs.YtkncboinfcnklaaGreatDoor.Mth

def setS (fs : List Fl) (k y : Nat) : List Fl := fs.set k ⟨(fs.getD k fl0).name, (fs.getD k fl0).data, y⟩
def aSync (fs : List Fl) (r : Int) : List Fl := if r < 0 then fs else setS fs r.toNat (fs.getD r.toNat fl0).data.size
def aRen (fs : List Fl) (x y : ByteArray) (r : Int) : List Fl := if r < 0 ∨ x = y then fs else wo y (wo x fs) ++ [⟨y, (fs.getD r.toNat fl0).data, (fs.getD r.toNat fl0).safe⟩]

theorem drewB (w : World) : Below w.heap.size w w.drew := ⟨rfl, rfl, rfl, Nat.le_refl _, fun _ _ => rfl⟩

/-- What a store of a fresh list leaves, over a draw. -/
theorem freshed {w w1 w2 : World} {B b d : Nat} {fs fs' : List Fl} {l1 : Int} {fv fv1 v2 : Value} (HT : Stp 100 109 B b w w1 fv fs l1 fv1) (HP : Ptr 102 w1 d b) (hB : B ≤ w.heap.size) (hc : CurF 109 w1.drew w2 v2 fs') :
    Stp 100 109 B b w (w2.setCell ⟨b, 0, none⟩ v2) fv fs' l1 v2 ∧ w2.cell? ⟨b, 0, none⟩ = some fv1 ∧ w2.frozen? ⟨b, 0, none⟩ = false ∧ w2.cell? ⟨d, 0, none⟩ = some (.pointer (some ⟨b, 0, none⟩)) := by
  have hsz := HT.tch.size
  have hd := drewB w1
  have hc1 := hc.pre hd
  have hb := (HT.st.below hc1.1).blk
  obtain ⟨k0, k1⟩ := cell_of (j := 0) (u := fv1) hb rfl
  exact ⟨HT.trans (HT.st.setFresh (by decide) (by omega) hc1), k0, k1, (cell_of (j := 0) (u := .pointer (some ⟨b, 0, none⟩)) (HP.below hc1.1) rfl).1⟩

set_option maxHeartbeats 1000000 in
theorem apiSync_no {w : World} {B b d : Nat} {fs : List Fl} {fv : Value} (h : St 100 109 w B b fs 0 fv) (hp : Ptr 102 w d b) (x : ByteArray) :
    Calls Tryz.prog 33 #[.pointer (some ⟨d, 0, none⟩), .string x] w fun e w' => e = .returned (.bool false) ∧ Stp 100 109 B b w w' fv fs 0 fv := by
  have CS := hide (apiStep_any h (by omega) (by omega))
  rw [show decide ((0 : Int) ≠ 0) = false from by decide, show decL 0 = 0 from rfl] at CS
  obtain ⟨p0, _⟩ := cell_of (j := 0) (u := .pointer (some ⟨b, 0, none⟩)) hp rfl
  clear h hp
  go_enter Tryz.func33, Tryz.ntmps33
  go_wp2_with fail
  refine CS.out.mono ?_
  rintro e w1 ⟨rfl, hs⟩
  have HT := hide hs
  clear hs CS
  go_wp2
  go_ret
  exact ⟨rfl, HT.out⟩

set_option maxHeartbeats 1000000 in
theorem apiRename_no {w : World} {B b d : Nat} {fs : List Fl} {fv : Value} (h : St 100 109 w B b fs 0 fv) (hp : Ptr 102 w d b) (x y : ByteArray) :
    Calls Tryz.prog 35 #[.pointer (some ⟨d, 0, none⟩), .string x, .string y] w fun e w' => e = .returned (.bool false) ∧ Stp 100 109 B b w w' fv fs 0 fv := by
  have CS := hide (apiStep_any h (by omega) (by omega))
  rw [show decide ((0 : Int) ≠ 0) = false from by decide, show decL 0 = 0 from rfl] at CS
  obtain ⟨p0, _⟩ := cell_of (j := 0) (u := .pointer (some ⟨b, 0, none⟩)) hp rfl
  clear h hp
  go_enter Tryz.func35, Tryz.ntmps35
  go_wp2_with fail
  refine CS.out.mono ?_
  rintro e w1 ⟨rfl, hs⟩
  have HT := hide hs
  clear hs CS
  go_wp2
  go_ret
  exact ⟨rfl, HT.out⟩

set_option maxHeartbeats 1000000 in
theorem apiRemove_no {w : World} {B b d : Nat} {fs : List Fl} {fv : Value} (h : St 100 109 w B b fs 0 fv) (hp : Ptr 102 w d b) (x : ByteArray) :
    Calls Tryz.prog 37 #[.pointer (some ⟨d, 0, none⟩), .string x] w fun e w' => e = .returned (.bool false) ∧ Stp 100 109 B b w w' fv fs 0 fv := by
  have CS := hide (apiStep_any h (by omega) (by omega))
  rw [show decide ((0 : Int) ≠ 0) = false from by decide, show decL 0 = 0 from rfl] at CS
  obtain ⟨p0, _⟩ := cell_of (j := 0) (u := .pointer (some ⟨b, 0, none⟩)) hp rfl
  clear h hp
  go_enter Tryz.func37, Tryz.ntmps37
  go_wp2_with fail
  refine CS.out.mono ?_
  rintro e w1 ⟨rfl, hs⟩
  have HT := hide hs
  clear hs CS
  go_wp2
  go_ret
  exact ⟨rfl, HT.out⟩

set_option maxRecDepth 100000 in
set_option maxHeartbeats 2000000 in
theorem apiRemove_yes {w : World} {B b d : Nat} {fs : List Fl} {left : Int} {fv : Value} (h : St 100 109 w B b fs left fv) (hp : Ptr 102 w d b) (hB : B ≤ w.heap.size) (h1 : -1 ≤ left) (h2 : left < 9223372036854775808) (q : left ≠ 0) (hl : fs.length ≤ 4194304) (x : ByteArray) :
    Calls Tryz.prog 37 #[.pointer (some ⟨d, 0, none⟩), .string x] w fun e w' => e = .returned (.bool true) ∧ ∃ fv', Stp 100 109 B b w w' fv (wo x fs) (decL left) fv' := by
  have CS := hide (apiStep_any h h1 h2)
  rw [decide_eq_true q] at CS
  obtain ⟨p0, _⟩ := cell_of (j := 0) (u := .pointer (some ⟨b, 0, none⟩)) hp rfl
  have HP := hide hp
  have HS := hide h
  generalize decL left = l1 at *
  clear h h1 h2 q hp
  go_enter Tryz.func37, Tryz.ntmps37
  go_wp2_with fail
  refine CS.out.mono ?_
  rintro e w1 ⟨rfl, hs⟩
  have HT := hide hs
  have HP1 := hide (HP.out.keep HS.out hs.tch (by decide) (by decide))
  obtain ⟨p1, _⟩ := cell_of (j := 0) (u := .pointer (some ⟨b, 0, none⟩)) HP1.out rfl
  have CW := hide (apiWithout_any (hs.st.below (drewB w1)) x hl)
  have hsz1 := hs.tch.size
  clear hs CS p0 HP HS
  go_wp2_with fail
  go_region_with (go_at_call 80; refine CW.out.mono ?_; rintro e w2 ⟨v2, rfl, hc2⟩; obtain ⟨a2, c2, rfl, _, _⟩ := own_slice hc2.2; obtain ⟨ht2, kb, kf, kd⟩ := freshed HT.out HP1.out hB hc2; have HT2 := hide ht2; clear ht2 hc2)
  all_goals (go_wp2; go_ret; exact ⟨rfl, _, HT2.out⟩)
end Go.Proofs.YtkncboinfcnklaaGreatDoor
