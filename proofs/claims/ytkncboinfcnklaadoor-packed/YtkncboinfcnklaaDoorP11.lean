import Derived.Test.YtkncboinfcnklaaDoorP10
import Derived.Shelf.Bytes.SlSmallAll
namespace Go.Proofs.YtkncboinfcnklaaDoor
open Go.RowKit Go.Deep Go.Proofs.YtkncboinfcnklaaDoor.Mth

theorem Rdr.below {w w' : World} {r B : Nat} {l : List Int} (h : Rdr w r B l) (hb : Below w.heap.size w w') : Rdr w' r B l := by
  obtain ⟨vl, h1, h2⟩ := h
  exact ⟨vl, by rw [hb.block r (Array.getElem?_eq_some_iff.1 h1).1]; exact h1, h2.1.below hb, h2.2⟩
theorem Rdr.lt {w : World} {r B : Nat} {l : List Int} (h : Rdr w r B l) : r < w.heap.size := by
  obtain ⟨vl, h1, h2⟩ := h
  exact (Array.getElem?_eq_some_iff.1 h1).1

/-- A box of an entry, and the reader beside it. -/
theorem box_set {w : World} {nb r : Nat} {C : Array Value} {u : Value} (h : w.heap[nb]? = some (Obj.cells C 31 (0, 0))) (hne : nb ≠ r) : (w.setCell ⟨r, 0, none⟩ u).heap[nb]? = some (Obj.cells C 31 (0, 0)) := by
  rw [← h]
  simp [World.setCell, Array.getElem?_modify]
  intro e; exact absurd e.symm hne

theorem grown_set {w : World} {r : Nat} {u : Value} : w.grownBy (w.setCell ⟨r, 0, none⟩ u) (some r) := grown_put ⟨rfl, rfl, rfl, Nat.le_refl _, fun _ _ _ => rfl⟩

theorem grown_trans {a b c : World} {row : Option Nat} (h : a.grownBy b row) (k : b.grownBy c row) : a.grownBy c row :=
  ⟨k.os.trans h.os, k.tape.trans h.tape, k.output.trans h.output, Nat.le_trans h.size k.size, fun j hj hne => (k.block j (Nat.lt_of_lt_of_le hj h.size) hne).trans (h.block j hj hne)⟩

theorem bts_drop {l : List Int} (h : Bts l) (n : Nat) : Bts (l.drop n) := fun x hx => h x (List.mem_of_mem_drop hx)
theorem bts_take {l : List Int} (h : Bts l) (n : Nat) : Bts (l.take n) := fun x hx => h x (List.mem_of_mem_take hx)

theorem rdNum_one {l : List Int} (h : Bts l) : 0 ≤ rdNum (l.take 1) ∧ rdNum (l.take 1) < 256 := by
  cases l with
  | nil => simp [rdNum]
  | cons x l =>
    have := h x (by simp)
    simp only [List.take_succ_cons, List.take_zero]
    rw [rdNum1 x this.1 this.2]
    exact this

theorem rdr_other {w w' : World} {nb r B : Nat} {a b : Int} {x : ByteArray} {l : List Int} (h : Rdr w r B l) (hb : w.heap[nb]? = some (Obj.cells #[.int .i64 a, .int .i64 b, .string x] 31 (0, 0))) (hr : nb ≠ r) (hk : ∀ k, k ≠ nb → w'.heap[k]? = w.heap[k]?) : Rdr w' r B l := by
  obtain ⟨vl, h1, h2, h3⟩ := h
  refine ⟨vl, by rw [hk r (Ne.symm hr)]; exact h1, ?_, h3⟩
  clear h3
  obtain ⟨a', c, rfl, hc, hm, h⟩ := h2
  refine ⟨a', c, rfl, hc, hm, ?_⟩
  rcases h with h | ⟨b', o, rfl, h⟩
  · exact Or.inl h
  · refine Or.inr ⟨b', o, rfl, fun j hj => ?_⟩
    have h1 := h j hj
    have hne : b' ≠ nb := by
      rintro rfl
      simp only [World.cell?, hb] at h1
      simp at h1
      generalize o + j = q at *
      match q, h1 with
      | 0, h1 => simp at h1
      | 1, h1 => simp at h1
      | 2, h1 => simp at h1
      | q + 3, h1 => simp at h1
    rw [World.cell?_of_block (w := w) (a := ⟨b', o + j, none⟩) (hk b' hne)]
    exact h1

theorem set_other {w : World} {nb k o : Nat} {u : Value} (h : k ≠ nb) : (w.setCell ⟨nb, o, none⟩ u).heap[k]? = w.heap[k]? := by
  simp [World.setCell, Array.getElem?_modify]
  intro e; exact absurd e.symm h

theorem conv_any {w : World} {v : Value} {l : List Int} (h : RdB w v l) : (convert 24 9 v).run Tryd.prog w = .ok (.string (strOfNums l)) w := by
  obtain ⟨a, c, rfl, hc, hm, h⟩ := h
  rcases h with h | ⟨b, o, rfl, h⟩
  · subst h
    exact run_convert_bytes_zero (P := Tryd.prog) w 24 5 Tryd.underlying24 Tryd.underlying5 a c 9 Tryd.underlying9
  · exact run_convert_bytes_arg (P := Tryd.prog) w 24 5 Tryd.underlying24 Tryd.underlying5 b o l.length c l rfl h 9 Tryd.underlying9

set_option maxRecDepth 100000 in
set_option maxHeartbeats 400000 in
theorem entry_any (r B : Nat) (l : List Int) (w : World) (h : Rdr w r B l) (hl : Bts l) :
    Calls Tryd.prog 22 #[.pointer (some ⟨r, 0, none⟩)] w fun e w' => e = .returned (eV (rdEnt l)) ∧ Rdr w' r B (rdRest l) ∧ w.grownBy w' (some r) := by
  have hrl := h.lt
  have HB0 : Hid ((w.alloc (.cells #[.int .i64 0, .int .i64 0, .string ByteArray.empty] 31)).heap[w.heap.size]? = some (.cells #[.int .i64 0, .int .i64 0, .string ByteArray.empty] 31 (0, 0))) := by
    show (w.heap.push _)[w.heap.size]? = _
    rw [Array.getElem?_push, if_pos rfl]
  have HR0 := hide (h.below (below_alloc w (.cells #[.int .i64 0, .int .i64 0, .string ByteArray.empty] 31)))
  have HG0 := hide (World.grownBy_alloc w (.cells #[.int .i64 0, .int .i64 0, .string ByteArray.empty] 31) (some r))
  clear h
  go_enter Tryd.func22, Tryd.ntmps22
  go_wp2_with fail
  refine (number_any r 8 B l _ HR0.out hl (by omega)).mono ?_
  rintro e w1 ⟨rfl, ⟨u1, hw1⟩, hr1⟩
  have HB1 : Hid (w1.heap[w.heap.size]? = some (.cells #[.int .i64 0, .int .i64 0, .string ByteArray.empty] 31 (0, 0))) := by rw [hw1]; exact box_set HB0.out (by omega)
  have HG1 : Hid (w.grownBy w1 (some r)) := by rw [hw1]; exact grown_trans HG0.out grown_set
  have HR1 := hide hr1
  clear hw1 hr1 HB0 HG0 HR0
  go_wp2_with fail
  refine (number_any r 8 B (l.drop 8) w1 HR1.out (bts_drop hl 8) (by omega)).mono ?_
  rintro e w2 ⟨rfl, ⟨u2, hw2⟩, hr2⟩
  have HB2 : Hid (w2.heap[w.heap.size]? = some (.cells #[.int .i64 0, .int .i64 0, .string ByteArray.empty] 31 (0, 0))) := by rw [hw2]; exact box_set HB1.out (by omega)
  have HG2 : Hid (w.grownBy w2 (some r)) := by rw [hw2]; exact grown_trans HG1.out grown_set
  have hr2' : Rdr w2 r B (l.drop 16) := by rw [List.drop_drop] at hr2; exact hr2
  have HR2 := hide hr2'
  clear hw2 hr2 hr2' HB1 HG1 HR1
  go_wp2_with fail
  refine (number_any r 1 B (l.drop 16) w2 HR2.out (bts_drop hl 16) (by omega)).mono ?_
  rintro e w3 ⟨rfl, ⟨u3, hw3⟩, hr3⟩
  have HB3 : Hid (w3.heap[w.heap.size]? = some (.cells #[.int .i64 0, .int .i64 0, .string ByteArray.empty] 31 (0, 0))) := by rw [hw3]; exact box_set HB2.out (by omega)
  have HG3 : Hid (w.grownBy w3 (some r)) := by rw [hw3]; exact grown_trans HG2.out grown_set
  have HR3 := hide hr3
  clear hw3 hr3 HB2 HG2 HR2
  have hone := rdNum_one (bts_drop hl 16)
  have hent : Hid (rdEnt l = ⟨rdNum (l.take 8), rdNum ((l.drop 8).take 8), strOfNums (((l.drop 16).drop 1).take (rdNum ((l.drop 16).take 1)).toNat)⟩) := rfl
  have hrst : Hid (rdRest l = ((l.drop 16).drop 1).drop (rdNum ((l.drop 16).take 1)).toNat) := rfl
  generalize rdNum ((l.drop 16).take 1) = N at *
  obtain ⟨m, rfl⟩ := Int.eq_ofNat_of_zero_le hone.1
  rw [Int.toNat_natCast] at hent hrst
  have hm : m < 256 := by omega
  clear hone
  have CT := hide (take_any r m B ((l.drop 16).drop 1) w3 HR3.out (by omega))
  go_wp2_with fail
  refine CT.out.mono ?_
  rintro e w4 ⟨v4, u4, rfl, hw4, hb4, hr4⟩
  have hB4 : w4.heap[w.heap.size]? = some (.cells #[.int .i64 0, .int .i64 0, .string ByteArray.empty] 31 (0, 0)) := by rw [hw4]; exact box_set HB3.out (by omega)
  have HG4 : Hid (w.grownBy w4 (some r)) := by rw [hw4]; exact grown_trans HG3.out grown_set
  have HR4 := hide hr4
  have hcv := conv_any hb4
  have k0 : w4.cell? ⟨w.heap.size, 0, none⟩ = some (.int .i64 0) := by simp [World.cell?, hB4]
  have k1 : w4.cell? ⟨w.heap.size, 1, none⟩ = some (.int .i64 0) := by simp [World.cell?, hB4]
  have k2 : w4.cell? ⟨w.heap.size, 2, none⟩ = some (.string ByteArray.empty) := by simp [World.cell?, hB4]
  have f0 : w4.frozen? ⟨w.heap.size, 0, none⟩ = false := by simp [World.frozen?, hB4]
  have f1 : w4.frozen? ⟨w.heap.size, 1, none⟩ = false := by simp [World.frozen?, hB4]
  have f2 : w4.frozen? ⟨w.heap.size, 2, none⟩ = false := by simp [World.frozen?, hB4]
  have HB4 := hide hB4
  generalize strOfNums (((l.drop 16).drop 1).take m) = X at *
  generalize rdNum (l.take 8) = S at *
  generalize rdNum ((l.drop 8).take 8) = T at *
  clear hw4 hb4 hr4 HB3 HG3 HR3 CT hB4
  go_wp2
  have hoth : ∀ k, k ≠ w.heap.size → (((w4.setCell ⟨w.heap.size, 0, none⟩ (.int .i64 S)).setCell ⟨w.heap.size, 1, none⟩ (.int .i64 T)).setCell ⟨w.heap.size, 2, none⟩ (.string X)).heap[k]? = w4.heap[k]? := fun k hk => by rw [set_other hk, set_other hk, set_other hk]
  have hbox : (((w4.setCell ⟨w.heap.size, 0, none⟩ (.int .i64 S)).setCell ⟨w.heap.size, 1, none⟩ (.int .i64 T)).setCell ⟨w.heap.size, 2, none⟩ (.string X)).heap[w.heap.size]? = some (Obj.cells #[.int .i64 S, .int .i64 T, .string X] 31 (0, 0)) := by
    simp [World.setCell, Array.getElem?_modify, HB4.out]
  have hsz5 : (((w4.setCell ⟨w.heap.size, 0, none⟩ (.int .i64 S)).setCell ⟨w.heap.size, 1, none⟩ (.int .i64 T)).setCell ⟨w.heap.size, 2, none⟩ (.string X)).heap.size = w4.heap.size := by simp [World.setCell]
  have hfr5 : Hid (w4.grownBy (((w4.setCell ⟨w.heap.size, 0, none⟩ (.int .i64 S)).setCell ⟨w.heap.size, 1, none⟩ (.int .i64 T)).setCell ⟨w.heap.size, 2, none⟩ (.string X)) (some w.heap.size)) := ⟨rfl, rfl, rfl, by rw [hsz5]; exact Nat.le_refl _, fun k _ hne => hoth k (fun e => hne (by rw [e]))⟩
  generalize (((w4.setCell ⟨w.heap.size, 0, none⟩ (.int .i64 S)).setCell ⟨w.heap.size, 1, none⟩ (.int .i64 T)).setCell ⟨w.heap.size, 2, none⟩ (.string X)) = w5 at *
  have q0 : w5.cell? ⟨w.heap.size, 0, none⟩ = some (.int .i64 S) := by simp [World.cell?, hbox]
  have q1 : w5.cell? ⟨w.heap.size, 1, none⟩ = some (.int .i64 T) := by simp [World.cell?, hbox]
  have q2 : w5.cell? ⟨w.heap.size, 2, none⟩ = some (.string X) := by simp [World.cell?, hbox]
  have HR5 : Rdr w5 r B (rdRest l) := by rw [hrst.out]; exact rdr_other HR4.out HB4.out (by omega) hoth
  have HG5 : w.grownBy w5 (some r) := ⟨hfr5.out.os.trans HG4.out.os, hfr5.out.tape.trans HG4.out.tape, hfr5.out.output.trans HG4.out.output, Nat.le_trans HG4.out.size hfr5.out.size, fun k hk hne => by rw [hoth k (by omega)]; exact HG4.out.block k hk hne⟩
  refine bodyPost_ret (v := .agg #[.int .i64 S, .int .i64 T, .string X]) (by simp [results, Tryd.results22, go_sem, q0, q1, q2]) rfl ⟨by rw [hent.out], HR5, HG5⟩
end Go.Proofs.YtkncboinfcnklaaDoor
