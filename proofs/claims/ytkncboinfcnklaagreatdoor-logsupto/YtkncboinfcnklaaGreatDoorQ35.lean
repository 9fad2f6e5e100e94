import Derived.Test.YtkncboinfcnklaaGreatDoorQ34
namespace Go.Proofs.YtkncboinfcnklaaGreatDoor.Lw
open Go.RowKit Go.Deep Go.Shelf Go.Proofs.YtkncboinfcnklaaGreatDoor.Mth Go.Proofs.YtkncboinfcnklaaGreatDoor.Rl

def I6 (x : Int) : Prop := -9223372036854775808 ≤ x ∧ x < 9223372036854775808
def OkH (o : Opr) : Prop := I6 o.A ∧ I6 o.B ∧ I6 o.C ∧ o.S.size ≤ 1048576
/-- The law's world behind some steps. -/
def LH (P : Lg → List Tl → Prop) (Z0 : Nat → Prop) (w : World) (B wb : Nat) (g0 g1 g2 g3 : Value) (M : Nat) : Prop :=
  ∃ Z hv ke ks kr Ne Ns Nr hs, (∀ g, Z0 g → Z g) ∧ HI P Z w B wb g0 g1 g2 g3 hv ke ks kr Ne Ns Nr M hs none
theorem LH.below {P : Lg → List Tl → Prop} {Z0 : Nat → Prop} {w w' : World} {B wb : Nat} {g0 g1 g2 g3 : Value} {M : Nat} (h : LH P Z0 w B wb g0 g1 g2 g3 M) (hb : Below w.heap.size w w') : LH P Z0 w' B wb g0 g1 g2 g3 M := by
  obtain ⟨Z, hv, ke, ks, kr, Ne, Ns, Nr, hs, h1, h2⟩ := h
  exact ⟨Z, hv, ke, ks, kr, Ne, Ns, Nr, hs, h1, h2.below hb⟩
theorem LH.mono {P : Lg → List Tl → Prop} {Z0 : Nat → Prop} {w : World} {B wb : Nat} {g0 g1 g2 g3 : Value} {M M' : Nat} (h : LH P Z0 w B wb g0 g1 g2 g3 M) (hM : M ≤ M') : LH P Z0 w B wb g0 g1 g2 g3 M' := by
  obtain ⟨Z, hv, ke, ks, kr, Ne, Ns, Nr, hs, h1, h2⟩ := h
  exact ⟨_, hv, ke, ks, kr, Ne, Ns, Nr, hs, fun g hg => Or.inl (h1 g hg), h2.more hM (Y := fun _ => False) (fun _ q => q.elim)⟩
theorem LH.keep {P : Lg → List Tl → Prop} {w : World} {B wb : Nat} {g0 g1 g2 g3 : Value} {M k : Nat} (h : LH P (fun _ => False) w B wb g0 g1 g2 g3 M) {w' : World} (hb : Below w.heap.size w w') (hk : w.heap.size ≤ k) (hk2 : k < w'.heap.size) : LH P (fun g => g = k) w' B wb g0 g1 g2 g3 M := by
  obtain ⟨Z, hv, ke, ks, kr, Ne, Ns, Nr, hs, h1, h2⟩ := h
  refine ⟨_, hv, ke, ks, kr, Ne, Ns, Nr, hs, fun g hg => Or.inr hg, (h2.below hb).more (Nat.le_refl _) (Y := fun g => g = k) (fun g hg => ?_)⟩
  subst hg
  refine ⟨hk2, fun hm => by have := h2.mlt hm; omega, fun j hj => ?_⟩
  by_cases q : (hs.getD j h0).ρ g = 0
  · exact q
  · have := (h2.lt j hj g q).1; omega
theorem LH.new (P : Lg → List Tl → Prop) (w : World) (g0 g1 g2 g3 : Value) : LH P (fun _ => False) (w.alloc (Obj.cells #[g0, g1, g2, g3, .slice none 0 0, .slice none 0 0, .slice none 0 0, .slice none 0 0, .slice none 0 0, .slice none 0 0, .slice none 0 0, .slice none 0 0, .slice none 0 0, .slice none 0 0, .slice none 0 0] 91)) w.heap.size w.heap.size g0 g1 g2 g3 0 := by
  refine ⟨fun _ => False, .slice none 0 0, .slice none 0 0, .slice none 0 0, .slice none 0 0, 0, 0, 0, [], fun _ q => q, new_blk w _ _, Nat.le_refl _, Bok.nil _ _ _ _ _ _ _, Bok.nil _ _ _ _ _ _ _, ⟨fun i _ => .slice none (i + 1) 0, fun i _ => ⟨_, _, rfl⟩, Bok.nil _ _ _ _ _ _ _⟩, World.ownsRow_nil _ _ _ _, fun j hj => absurd hj (Nat.not_lt_zero _), fun j hj => absurd hj (Nat.not_lt_zero _), fun j hj => absurd hj (Nat.not_lt_zero _), fun j hj => absurd hj (Nat.not_lt_zero _), fun i j hi => absurd hi (Nat.not_lt_zero _), fun g hg => hg.elim, fun g _ j hj => absurd hj (Nat.not_lt_zero _), Nat.le_refl _, Nat.le_refl _, Nat.le_refl _, Nat.le_refl _⟩
theorem HS.lh {P : Lg → List Tl → Prop} {Z Z0 : Nat → Prop} {w w' : World} {B wb : Nat} {g0 g1 g2 g3 : Value} {M : Nat} (h : HS P Z w w' B wb g0 g1 g2 g3 M) (hz : ∀ g, Z0 g → Z g) : LH P Z0 w' B wb g0 g1 g2 g3 M := by
  obtain ⟨Z', hv, ke, ks, kr, Ne, Ns, Nr, hs', h1, h2⟩ := h.ex
  exact ⟨Z', hv, ke, ks, kr, Ne, Ns, Nr, hs', fun g hg => h1 g (hz g hg), h2⟩

/-- What the walk of the laws asks of step. -/
structure SH (P : Lg → List Tl → Prop) (hi : Int) : Prop where
  st : ∀ {Z : Nat → Prop} {w : World} {B wb : Nat} {g0 g1 g2 g3 hv ke ks kr : Value} {Ne Ns Nr M : Nat} {hs : List Ho} {Cs : List Cf} (o : Opr), HI P Z w B wb g0 g1 g2 g3 hv ke ks kr Ne Ns Nr M hs none → TabB B w → Tab10B B w → B ≤ w.heap.size → RdC w g3 Cs → Cs.length ≤ 1048576 → OkH o → 10 ≤ o.k → o.k ≤ hi → M + 2 ≤ 400000 → Calls Tryz.prog 29 #[ptrV wb, oV o] w fun e w' => e = .returned (.bool true) ∧ HS P Z w w' B wb g0 g1 g2 g3 (M + 2)
theorem SH.lh {P : Lg → List Tl → Prop} {hi : Int} (hS : SH P hi) {Z0 : Nat → Prop} {w : World} {B wb : Nat} {g0 g1 g2 g3 : Value} {M : Nat} (h : LH P Z0 w B wb g0 g1 g2 g3 M) {Cs : List Cf} (o : Opr) (ht : TabB B w) (ht' : Tab10B B w) (hB : B ≤ w.heap.size) (hG : RdC w g3 Cs) (hC : Cs.length ≤ 1048576) (hO : OkH o) (h1 : 10 ≤ o.k) (h2 : o.k ≤ hi) (hM : M + 2 ≤ 400000) :
    Calls Tryz.prog 29 #[ptrV wb, oV o] w fun e w' => e = .returned (.bool true) ∧ LH P Z0 w' B wb g0 g1 g2 g3 (M + 2) ∧ Below B w w' ∧ (∀ g, Z0 g → w'.heap[g]? = w.heap[g]?) := by
  obtain ⟨Z, hv, ke, ks, kr, Ne, Ns, Nr, hs, hz, hI⟩ := h
  refine (hS.st o hI ht ht' hB hG hC hO h1 h2 hM).mono ?_
  rintro e w' ⟨rfl, hs'⟩
  exact ⟨rfl, hs'.lh hz, hs'.bel, fun g hg => hs'.zk g (hz g hg)⟩

/-- step, out of what lays and asks do. -/
theorem sh_of {P : Lg → List Tl → Prop} {hi : Int} (hhi : hi ≤ 19) (hP0 : ∀ m f bk n kp bt, P (Lg.new m f bk n kp bt) []) (hPa : ∀ L ts s, P L ts → P (L.app s) ts) (hPc : ∀ (L : Lg) ts (n : Nat), P L ts → P { L with clock := L.clock + n } ts) (hPt : ∀ L ts, P L ts → ts.length ≤ 1000)
    (hask : ∀ {Z : Nat → Prop} {w : World} {B wb : Nat} {g0 g1 g2 g3 hv ke ks kr : Value} {Ne Ns Nr M : Nat} {hs : List Ho} {i : Nat} (o : Opr), HI P Z w B wb g0 g1 g2 g3 hv ke ks kr Ne Ns Nr M hs none → i < hs.length → TabB B w → B ≤ w.heap.size → OkH o → 14 ≤ o.k → o.k ≤ hi → M + 2 ≤ 400000 → Calls Tryz.prog 69 #[ptrV wb, ptrV (hs.getD i h0).hb, oV o] w fun e w' => e = .returned (.bool true) ∧ HS P Z w w' B wb g0 g1 g2 g3 (M + 2)) : SH P hi := by
  refine ⟨?_⟩
  intro Z w B wb g0 g1 g2 g3 hv ke ks kr Ne Ns Nr M hs Cs o h ht ht' hBw hG hC hO hk1 hk2 hM
  obtain ⟨hA, hB', hC', hS⟩ := hO
  by_cases hm : o.k ≤ 11
  · refine step_made o (by omega) _ (fun W hW => ?_)
    refine (made_any (h.below hW) (ht.next (hW.mono hBw)) (Nat.le_trans hBw hW.size) (hG.below hW) hC o (by omega) hA (by omega) hP0).mono ?_
    rintro e w' ⟨rfl, hs'⟩
    exact ⟨rfl, (hs'.mono (by omega)).pre (hW.mono hBw) (fun _ q => q) (fun g hg => hW.block g (h.zm g hg).1)⟩
  · by_cases hn : hs.length = 0
    · obtain ⟨a, c, e, _, _⟩ := own_slice h.row
      rw [hn] at e
      refine (step_idle h.blk a c (by rw [e]; rfl) o (by omega)).mono ?_
      rintro e w' ⟨rfl, hb⟩
      refine ⟨rfl, hb.mono hBw, fun g hg => hb.block g (h.zm g hg).1, _, hv, ke, ks, kr, Ne, Ns, Nr, hs, fun g hg => Or.inl hg, (h.below hb).more (Y := fun _ => False) (by omega) (fun _ q => q.elim)⟩
    · obtain ⟨a, c, e, hc⟩ := own_slice h.row
      have hrow := h.row
      rw [e] at hrow
      obtain ⟨gb, rfl⟩ := own_some hrow (by omega)
      have hmb := h.mb
      have hcl : ∀ i, i < hs.length → w.cell? ⟨gb, i, none⟩ = some (ptrV (hs.getD i h0).hb) := fun i hi => by
        have h1 : (hs.map (fun x => ptrV x.hb))[i]? = some (ptrV (hs.getD i h0).hb) := by
          rw [List.getElem?_map, List.getElem?_eq_getElem hi, List.getElem_eq_getD h0]
          rfl
        exact own_get hrow h1
      refine step_walk h.blk gb hs.length c (by rw [e]; rfl) (by omega) (by omega) hc (fun i => (hs.getD i h0).hb) (fun i => (hs.getD i h0).lb) hcl (fun i hi => (cell_of (j := 0) (h.hob i hi) rfl).1) o (by omega) hA _ (fun i hi W hW hk => ?_) (fun i hi W hW hk => ?_)
      · have hz : ∀ g, Z g → W.heap[g]? = w.heap[g]? := fun g hg => hW.block g (h.zm g hg).1
        have hBW := Nat.le_trans hBw hW.size
        obtain ⟨k, A, Bv, Cv, S, T⟩ := o
        simp only at hk hm hk1 hA hB' hS
        by_cases h12 : k = 12
        · subst h12
          refine (laysA_any (h.below hW) hi (ht.next (hW.mono hBw)) hBW A Bv Cv S T hS (by omega) hPa hPt).mono ?_
          rintro e w' ⟨rfl, hs'⟩
          exact ⟨rfl, (hs'.mono (by omega)).pre (hW.mono hBw) (fun _ q => q) hz⟩
        · have h13 : k = 13 := by omega
          subst h13
          refine (laysT_any (h.below hW) hi (ht'.next (hW.mono hBw)) hBW A Bv Cv S T ⟨hB'.1, by have := hB'.2; omega⟩ (by omega) hPc hPt).mono ?_
          rintro e w' ⟨rfl, hs'⟩
          exact ⟨rfl, (hs'.mono (by omega)).pre (hW.mono hBw) (fun _ q => q) hz⟩
      · refine (hask o (h.below hW) hi (ht.next (hW.mono hBw)) (Nat.le_trans hBw hW.size) ⟨hA, hB', hC', hS⟩ hk hk2 hM).mono ?_
        rintro e w' ⟨rfl, hs'⟩
        exact ⟨rfl, hs'.pre (hW.mono hBw) (fun _ q => q) (fun g hg => hW.block g (h.zm g hg).1)⟩

theorem wholeH_any {P : Lg → List Tl → Prop} {Z0 : Nat → Prop} {w : World} {B wb : Nat} {g0 g1 g2 g3 : Value} {M : Nat} (h : LH P Z0 w B wb g0 g1 g2 g3 M) (hM : M ≤ 400000) : Calls Tryz.prog 30 #[.pointer (some ⟨wb, 9, none⟩)] w fun e w' => e = .returned (.bool true) ∧ Below w.heap.size w w' := by
  obtain ⟨Z, hv, ke, ks, kr, Ne, Ns, Nr, hs, _, h⟩ := h
  have hmb := h.mb
  obtain ⟨F, hF, hbr⟩ := h.br
  exact wholeAll_any w B wb g0 g1 g2 g3 _ _ _ _ hv _ _ _ ke ks kr 0 0 0 Ne Ns Nr h.blk ⟨Book.nil _ _ _ _ _ _, Book.nil _ _ _ _ _ _, Book.nil _ _ _ _ _ _, h.be.book, h.bs.book, ⟨F, hF, hbr.book⟩⟩ (Nat.zero_le _) (Nat.zero_le _) (Nat.zero_le _) (by omega) (by omega) (by omega)

set_option maxRecDepth 100000 in
set_option maxHeartbeats 1000000 in
theorem knownH_any (w : World) :
    Calls Tryz.prog 27 #[] w fun e w' => ∃ s0 s1 s2 s3 : Value, isS s0 ∧ isS s1 ∧ isS s2 ∧ isS s3 ∧ e = .returned (.agg #[s0, s1, s2, s3]) ∧ Below w.heap.size w w' ∧ RdC w' s3 [⟨1, 2, 0, 1, 5, 2⟩, ⟨0, 0, 0, 0, 0, 0⟩] := by
  go_enter Tryz.func27, Tryz.ntmps27
  go_wp2
  refine bodyPost_ret (v := .agg #[.slice (some ⟨w.heap.size + 1 + 1 + 1, 0, none⟩) 2 2, .slice (some ⟨w.heap.size + 1 + 1 + 1 + 1 + 1 + 1, 0, none⟩) 2 2, .slice (some ⟨w.heap.size + 1 + 1 + 1 + 1 + 1 + 1 + 1 + 1, 0, none⟩) 1 1, .slice (some ⟨w.heap.size + 1 + 1 + 1 + 1 + 1 + 1 + 1 + 1 + 1, 0, none⟩) 2 2]) (by simp [results, Tryz.results27, go_sem]) rfl ⟨_, _, _, _, ⟨_, _, _, rfl⟩, ⟨_, _, _, rfl⟩, ⟨_, _, _, rfl⟩, ⟨_, _, _, rfl⟩, rfl, ?_, ?_⟩
  · repeat (first | exact below_alloc w _ | refine Below.alloc ?_ (by simp; try omega) _)
  · refine ⟨_, 2, rfl, by simp, by unfold maxLen; simp, Or.inr ⟨_, 0, rfl, fun i hi => ?_⟩⟩
    have hi2 : i < 2 := by simpa using hi
    match i, hi2 with
    | 0, _ => exact ⟨(cell_of (j := 0) (alloc_new _ _ _ (by simp)) rfl).1, (cell_of (j := 1) (alloc_new _ _ _ (by simp)) rfl).1, (cell_of (j := 2) (alloc_new _ _ _ (by simp)) rfl).1, (cell_of (j := 3) (alloc_new _ _ _ (by simp)) rfl).1, (cell_of (j := 4) (alloc_new _ _ _ (by simp)) rfl).1, (cell_of (j := 5) (alloc_new _ _ _ (by simp)) rfl).1⟩
    | 1, _ => exact ⟨(cell_of (j := 6) (alloc_new _ _ _ (by simp)) rfl).1, (cell_of (j := 7) (alloc_new _ _ _ (by simp)) rfl).1, (cell_of (j := 8) (alloc_new _ _ _ (by simp)) rfl).1, (cell_of (j := 9) (alloc_new _ _ _ (by simp)) rfl).1, (cell_of (j := 10) (alloc_new _ _ _ (by simp)) rfl).1, (cell_of (j := 11) (alloc_new _ _ _ (by simp)) rfl).1⟩
set_option maxRecDepth 100000 in
set_option maxHeartbeats 2000000 in
theorem openingH_any (w : World) :
    Calls Tryz.prog 28 #[] w fun e w' => ∃ g, e = .returned (.slice (some ⟨g, 0, none⟩) 27 27) ∧ Below w.heap.size w w' ∧ w.heap.size ≤ g ∧ Blk w' g 94 ((opn pkS).flatMap oC) := by
  have hrd : RdE (w.alloc (Obj.cells #[.int .i64 5, .int .i64 7, .string ⟨#[97, 45, 65]⟩] 66)) (.slice (some ⟨w.heap.size, 0, none⟩) 1 1) [eOne] := by
    refine ⟨_, 1, rfl, by simp, by unfold maxLen; simp, Or.inr ⟨_, 0, rfl, fun j hj => ?_⟩⟩
    have hj0 : j = 0 := by simp at hj; exact hj
    subst hj0
    refine ⟨?_, ?_, ?_⟩
    all_goals simp [eOne, List.getD]
  have HB := hide (below_alloc w (Obj.cells #[.int .i64 5, .int .i64 7, .string ⟨#[97, 45, 65]⟩] 66))
  have CP := hide (refPack_yes _ _ _ hrd seg_one)
  have HP : Hid (pkS = strOfNums (pk [eOne])) := rfl
  rw [← HP.out] at CP
  clear hrd
  go_enter Tryz.func28, Tryz.ntmps28
  go_wp2_with fail
  refine CP.out.mono ?_
  rintro e w2 ⟨rfl, hb2⟩
  have HB2 := hide (HB.out.trans (hb2.mono HB.out.size))
  clear hb2 CP HB
  generalize pkS = PS at *
  go_wp2
  go_ret
  refine ⟨_, rfl, HB2.out.alloc (by have := HB2.out.size; omega) _, HB2.out.size, ?_⟩
  show (w2.heap.push _)[w2.heap.size]? = _
  rw [Array.getElem?_push, if_pos rfl]
  simp [opn, oC]
  exact HP.out
end Go.Proofs.YtkncboinfcnklaaGreatDoor.Lw

namespace Go.Proofs.YtkncboinfcnklaaGreatDoor.Lw
open Go.RowKit Go.Deep Go.Shelf Go.Proofs.YtkncboinfcnklaaGreatDoor.Mth Go.Proofs.YtkncboinfcnklaaGreatDoor.Rl

theorem opn_okH : ∀ o ∈ opn pkS, OkH o := by
  intro o ho
  have h2 := (opn_ok pkS pkS_size o ho).2.2
  unfold opn at ho
  simp only [List.mem_cons, List.not_mem_nil, or_false] at ho
  rcases ho with rfl | rfl | rfl | rfl | rfl | rfl | rfl | rfl | rfl | rfl | rfl | rfl | rfl | rfl | rfl | rfl | rfl | rfl | rfl | rfl | rfl | rfl | rfl | rfl | rfl | rfl | rfl
  all_goals exact ⟨⟨by simp, by simp⟩, ⟨by simp, by simp⟩, ⟨by simp, by simp⟩, h2⟩
theorem Tab10B.mono {B B' : Nat} {w : World} (h : Tab10B B w) (hB : B ≤ B') : Tab10B B' w := fun w' hb => h w' (hb.mono hB)

set_option maxRecDepth 100000 in
set_option maxHeartbeats 4000000 in
theorem playsH_any {P : Lg → List Tl → Prop} {hi : Int} (hhi : 14 ≤ hi ∧ hi ≤ 19) (hSH : SH P hi) (W0 : World) (g0 g1 g2 g3 sv : Value) (Cs : List Cf) (ops : List Opr) (hs0 : isS g0) (hs1 : isS g1) (hs2 : isS g2) (hG : RdC W0 g3 Cs) (hCl : Cs.length ≤ 1048576) (ht : TabB W0.heap.size W0) (ht' : Tab10B W0.heap.size W0) (hO : RdO W0 sv ops) (hOk : ∀ o ∈ ops, OkH o) (hn : ops.length ≤ 190000) :
    Calls Tryz.prog 12 #[.agg #[g0, g1, g2, g3], sv, .int .i64 10, .int .i64 hi] W0 fun e w' => e = .returned (.bool true) ∧ Below W0.heap.size W0 w' := by
  have HG := hide hG
  have HCL := hide hCl
  have HT := hide ht
  have HTT := hide ht'
  have HO := hide hO
  have HOK := hide hOk
  have HSH : Hid (SH P hi) := hSH
  obtain ⟨sa, sc, rfl, hsc, hsm⟩ := rdO_len hO
  unfold maxLen at hsm
  obtain ⟨a3, c3, rfl, _, _, _⟩ := hG
  obtain ⟨a0, n0, c0, rfl⟩ := hs0
  obtain ⟨a1, n1, c1, rfl⟩ := hs1
  obtain ⟨ga, gn, gc, rfl⟩ := hs2
  generalize hn3 : Cs.length = n3 at *
  have HN3 := hide hn3
  clear hn3 hSH
  have HB1 := hide (below_alloc W0 (Obj.cells #[.slice a0 n0 c0, .slice a1 n1 c1, .slice ga gn gc, .slice a3 n3 c3] 27))
  have HGB := hide (alloc_new W0 (Obj.cells #[.slice a0 n0 c0, .slice a1 n1 c1, .slice ga gn gc, .slice a3 n3 c3] 27) W0.heap.size rfl)
  have hlt1 : W0.heap.size < (W0.alloc (Obj.cells #[.slice a0 n0 c0, .slice a1 n1 c1, .slice ga gn gc, .slice a3 n3 c3] 27)).heap.size := by simp
  clear hO hOk ht ht' hCl
  obtain ⟨hh1, hh2⟩ := hhi
  generalize hon : ops.length = on at *
  have HON := hide hon
  clear hon
  go_enter Tryz.func12, Tryz.ntmps12
  go_wp2_with fail
  generalize W0.alloc (Obj.cells #[.slice a0 n0 c0, .slice a1 n1 c1, .slice ga gn gc, .slice a3 n3 c3] 27) = w1 at *
  refine (knownH_any w1).mono ?_
  rintro e w2 ⟨k0, k1, k2, k3, ⟨p0, q0, r0, rfl⟩, ⟨p1, q1, r1, rfl⟩, ⟨p2, q2, r2, rfl⟩, ⟨p3, q3, r3, rfl⟩, rfl, hb2, hk2⟩
  have HB2 := hide hb2
  have HK2 := hide hk2
  have hs2 := hb2.size
  clear hb2 hk2
  have HS3 := hide (LH.new P w2 (.slice p0 q0 r0) (.slice p1 q1 r1) (.slice p2 q2 r2) (.slice p3 q3 r3))
  have HB3 := hide (below_alloc w2 (Obj.cells #[.slice p0 q0 r0, .slice p1 q1 r1, .slice p2 q2 r2, .slice p3 q3 r3, .slice none 0 0, .slice none 0 0, .slice none 0 0, .slice none 0 0, .slice none 0 0, .slice none 0 0, .slice none 0 0, .slice none 0 0, .slice none 0 0, .slice none 0 0, .slice none 0 0] 91))
  go_wp2_with fail
  generalize w2.alloc (Obj.cells #[.slice p0 q0 r0, .slice p1 q1 r1, .slice p2 q2 r2, .slice p3 q3 r3, .slice none 0 0, .slice none 0 0, .slice none 0 0, .slice none 0 0, .slice none 0 0, .slice none 0 0, .slice none 0 0, .slice none 0 0, .slice none 0 0, .slice none 0 0, .slice none 0 0] 91) = w3 at *
  refine (openingH_any w3).mono ?_
  rintro e w4 ⟨og, rfl, hb4, hog, hbl4⟩
  have HS4 := hide (HS3.out.keep hb4 hog (Array.getElem?_eq_some_iff.1 hbl4).1)
  have HB4 := hide (HB3.out.trans (hb4.mono HB3.out.size))
  have HBL4 := hide hbl4
  have HB02 : Hid (Below W0.heap.size W0 w2) := HB1.out.trans (HB2.out.mono HB1.out.size)
  have hso := opn_okH
  have HSO := hide hso
  clear hb4 hbl4 hso HS3 HB3 hog
  generalize hOP : opn pkS = OP at *
  have hol : Hid (OP.length = 27) := by show _ = _; rw [← hOP]; rfl
  clear hOP
  go_wp2_with fail
  go_loopw [11] (fun i wr => ∃ k : Nat, k ≤ 27 ∧ i = .int .i64 k ∧ Below w2.heap.size w2 wr ∧ LH P (fun g => g = og) wr w2.heap.size w2.heap.size (.slice p0 q0 r0) (.slice p1 q1 r1) (.slice p2 q2 r2) (.slice p3 q3 r3) (2 * k) ∧ Blk wr og 94 (OP.flatMap oC)) (fun i _ => 27 - (intOf i).toNat)
  case atStart => exact ⟨0, by omega, rfl, HB4.out, HS4.out, HBL4.out⟩
  case round =>
    obtain ⟨k, hk, rfl, hb, hsi, hbl⟩ := hrel
    have HB := hide hb
    have HSI := hide hsi
    have HBL := hide hbl
    clear hb hsi hbl
    by_cases hlt : k < 27
    · have hrd := rdO_blk HBL.out (by rw [hol.out]; omega)
      rw [hol.out] at hrd
      obtain ⟨b, o, e, _, c0', c1', c2', c3', c4', c5'⟩ := rdO_at hrd k (by rw [hol.out]; exact hlt)
      injection e with e
      injection e with e1 e2
      subst e1 e2
      have hok := HSO.out _ (getD_mem (l := OP) (j := k) (by rw [hol.out]; exact hlt) o0)
      generalize OP.getD k o0 = op at *
      by_cases h7 : 10 ≤ op.k
      · by_cases h9 : op.k ≤ hi
        · have HW : Hid (Below W0.heap.size W0 wr) := HB02.out.trans (HB.out.mono HB02.out.size)
          have CS := hide (HSH.out.lh HSI.out op (TabB.mono (HT.out.next HW.out) HB02.out.size) (Tab10B.mono (HTT.out.next HW.out) HB02.out.size) HB.out.size (HK2.out.below HB.out) (by simp) hok h7 h9 (by omega))
          obtain ⟨ok, oA, oB, oC', oS, oT⟩ := op
          simp only [oV] at CS c0' c1' c2' c3' c4' c5' h7 h9
          simp only [Nat.zero_add] at c0' c1' c2' c3' c4' c5'
          clear hok hrd
          go_wp2_with fail
          refine CS.out.mono ?_
          rintro e w5 ⟨rfl, h2, h1, h3⟩
          have H1 := hide (HB.out.trans h1)
          have H2 := hide h2
          have H3 : Hid (Blk w5 og 94 (OP.flatMap oC)) := (h3 og rfl).trans HBL.out
          clear h1 h2 h3 CS c0' c1' c2' c3' c4' c5'
          go_wp2
          go_roundw
          case rel => exact ⟨k + 1, by omega, by go_num, H1.out, H2.out, H3.out⟩
          case measure => simp [intOf]; omega
        · obtain ⟨ok, oA, oB, oC', oS, oT⟩ := op
          simp only at c0' h7 h9
          simp only [Nat.zero_add] at c0'
          clear hok hrd c1' c2' c3' c4' c5'
          go_wp2
          go_roundw
          case rel => exact ⟨k + 1, by omega, by go_num, HB.out, (HSI.out.mono (by omega)), HBL.out⟩
          case measure => simp [intOf]; omega
      · obtain ⟨ok, oA, oB, oC', oS, oT⟩ := op
        simp only at c0' h7
        simp only [Nat.zero_add] at c0'
        clear hok hrd c1' c2' c3' c4' c5'
        go_wp2
        go_roundw
        case rel => exact ⟨k + 1, by omega, by go_num, HB.out, (HSI.out.mono (by omega)), HBL.out⟩
        case measure => simp [intOf]; omega
    · have HGW := hide ((HB.out.block W0.heap.size (by omega)).trans ((HB2.out.block W0.heap.size hlt1).trans HGB.out))
      obtain ⟨x0, _⟩ := cell_of (j := 0) (u := .slice a0 n0 c0) HGW.out rfl
      obtain ⟨x1, _⟩ := cell_of (j := 1) (u := .slice a1 n1 c1) HGW.out rfl
      obtain ⟨x2, _⟩ := cell_of (j := 2) (u := .slice ga gn gc) HGW.out rfl
      obtain ⟨x3, _⟩ := cell_of (j := 3) (u := .slice a3 n3 c3) HGW.out rfl
      have HB0 : Hid (Below W0.heap.size W0 wr) := HB02.out.trans (HB.out.mono HB02.out.size)
      have HG5 := hide (HG.out.below HB0.out)
      have HS6 := hide (LH.new P wr (.slice a0 n0 c0) (.slice a1 n1 c1) (.slice ga gn gc) (.slice a3 n3 c3))
      have HB6 := hide (below_alloc wr (Obj.cells #[.slice a0 n0 c0, .slice a1 n1 c1, .slice ga gn gc, .slice a3 n3 c3, .slice none 0 0, .slice none 0 0, .slice none 0 0, .slice none 0 0, .slice none 0 0, .slice none 0 0, .slice none 0 0, .slice none 0 0, .slice none 0 0, .slice none 0 0, .slice none 0 0] 91))
      clear HSI HBL HGW HSO
      go_wp2_with fail
      generalize wr.alloc (Obj.cells #[.slice a0 n0 c0, .slice a1 n1 c1, .slice ga gn gc, .slice a3 n3 c3, .slice none 0 0, .slice none 0 0, .slice none 0 0, .slice none 0 0, .slice none 0 0, .slice none 0 0, .slice none 0 0, .slice none 0 0, .slice none 0 0, .slice none 0 0, .slice none 0 0] 91) = w6 at *
      clear x0 x1 x2 x3
      generalize wr = Win at *
      go_loopw [14] (fun i wr => ∃ k : Nat, k ≤ on ∧ i = .int .i64 k ∧ Below Win.heap.size Win wr ∧ LH P (fun _ => False) wr Win.heap.size Win.heap.size (.slice a0 n0 c0) (.slice a1 n1 c1) (.slice ga gn gc) (.slice a3 n3 c3) (2 * k)) (fun i _ => on - (intOf i).toNat)
      case atStart => exact ⟨0, by omega, rfl, HB6.out, HS6.out⟩
      case round =>
        obtain ⟨k, hk, rfl, hb, hsi⟩ := hrel
        have HBB := hide hb
        have HSI := hide hsi
        have HB0w : Hid (Below W0.heap.size W0 wr) := HB0.out.trans (hb.mono HB0.out.size)
        clear hb hsi
        by_cases hlt2 : k < on
        · obtain ⟨b, o, rfl, _, c0', c1', c2', c3', c4', c5'⟩ := rdO_at (HO.out.below HB0w.out) k (by rw [HON.out]; exact hlt2)
          have hok := HOK.out _ (getD_mem (l := ops) (j := k) (by rw [HON.out]; exact hlt2) o0)
          generalize ops.getD k o0 = op at *
          by_cases h7 : 10 ≤ op.k
          · by_cases h9 : op.k ≤ hi
            · have CS := hide (HSH.out.lh HSI.out op (TabB.mono (HT.out.next HB0w.out) HB0.out.size) (Tab10B.mono (HTT.out.next HB0w.out) HB0.out.size) HBB.out.size (HG5.out.below HBB.out) (by rw [HN3.out]; exact HCL.out) hok h7 h9 (by omega))
              obtain ⟨ok, oA, oB, oC', oS, oT⟩ := op
              simp only [oV] at CS c0' c1' c2' c3' c4' c5' h7 h9
              clear hok
              go_wp2_with fail
              refine CS.out.mono ?_
              rintro e w7 ⟨rfl, h2, h1, _⟩
              have H1 := hide (HBB.out.trans h1)
              have H2 := hide h2
              have CW := hide (wholeH_any h2 (by omega))
              clear h1 h2 CS c0' c1' c2' c3' c4' c5'
              go_wp2_with fail
              refine CW.out.mono ?_
              rintro e w8 ⟨rfl, hb8⟩
              have H8 := hide (H1.out.trans (hb8.mono H1.out.size))
              have S8 := hide (H2.out.below hb8)
              clear hb8 CW
              go_wp2
              go_roundw
              case rel => exact ⟨k + 1, by omega, by go_num, H8.out, S8.out⟩
              case measure => simp [intOf]; omega
            · obtain ⟨ok, oA, oB, oC', oS, oT⟩ := op
              simp only at c0' h7 h9
              clear hok c1' c2' c3' c4' c5'
              go_wp2
              go_roundw
              case rel => exact ⟨k + 1, by omega, by go_num, HBB.out, (HSI.out.mono (by omega))⟩
              case measure => simp [intOf]; omega
          · obtain ⟨ok, oA, oB, oC', oS, oT⟩ := op
            simp only at c0' h7
            clear hok c1' c2' c3' c4' c5'
            go_wp2
            go_roundw
            case rel => exact ⟨k + 1, by omega, by go_num, HBB.out, (HSI.out.mono (by omega))⟩
            case measure => simp [intOf]; omega
        · go_wp2
          go_ret
          exact ⟨rfl, HB0w.out⟩
end Go.Proofs.YtkncboinfcnklaaGreatDoor.Lw

namespace Go.Proofs.YtkncboinfcnklaaGreatDoor.Lw
open Go.RowKit Go.Deep Go.Shelf Go.Proofs.YtkncboinfcnklaaGreatDoor.Mth Go.Proofs.YtkncboinfcnklaaGreatDoor.Rl

/-- No tails. -/
def P14 (_ : Lg) (ts : List Tl) : Prop := ts = []
theorem sh14 : SH P14 14 := by
  refine sh_of (by omega) (fun _ _ _ _ _ _ => rfl) (fun _ _ _ h => h) (fun _ _ _ h => h) (fun _ ts h => by rw [h]; exact Nat.zero_le _) ?_
  intro Z w B wb g0 g1 g2 g3 hv ke ks kr Ne Ns Nr M hs i o h hi ht hBw hO hk1 hk2 hM
  obtain ⟨k, A, Bv, Cv, S, T⟩ := o
  obtain ⟨_, _, _, hS⟩ := hO
  simp only at hk1 hk2 hS
  obtain rfl : k = 14 := by omega
  exact asksQ_any h hi ht hBw A Bv Cv S T hS hM (fun _ ts h => by rw [h]; exact Nat.zero_le _)

set_option maxRecDepth 100000 in
set_option maxHeartbeats 1000000 in
theorem lawLogs_any (W0 : World) (g0 g1 g2 g3 sv : Value) (Cs : List Cf) (ops : List Opr) (hs0 : isS g0) (hs1 : isS g1) (hs2 : isS g2) (hG : RdC W0 g3 Cs) (hCl : Cs.length ≤ 1048576) (ht : TabB W0.heap.size W0) (ht' : Tab10B W0.heap.size W0) (hO : RdO W0 sv ops) (hOk : ∀ o ∈ ops, OkH o) (hn : ops.length ≤ 190000) :
    Calls Tryz.prog 6 #[.agg #[g0, g1, g2, g3], sv] W0 fun e w' => e = .returned (.bool true) ∧ Below W0.heap.size W0 w' := by
  have HB1 := hide (below_alloc W0 (Obj.cells #[g0, g1, g2, g3] 27))
  have CP := hide (playsH_any (hi := 14) (by omega) sh14 _ g0 g1 g2 g3 sv Cs ops hs0 hs1 hs2 (hG.below HB1.out) hCl (TabB.mono (ht.next HB1.out) HB1.out.size) (Tab10B.mono (ht'.next HB1.out) HB1.out.size) (hO.below HB1.out) hOk hn)
  obtain ⟨sa, sc, rfl, _, _⟩ := rdO_len hO
  obtain ⟨a3, c3, rfl, _, _, _⟩ := hG
  obtain ⟨a0, n0, c0, rfl⟩ := hs0
  obtain ⟨a1, n1, c1, rfl⟩ := hs1
  obtain ⟨ga, gn, gc, rfl⟩ := hs2
  clear hO hOk ht ht'
  go_enter Tryz.func6, Tryz.ntmps6
  go_wp2_with fail
  refine CP.out.mono ?_
  rintro e w' ⟨rfl, hb⟩
  have HB := hide (HB1.out.trans (hb.mono HB1.out.size))
  clear hb CP
  go_wp2
  go_ret
  exact ⟨rfl, HB.out⟩
end Go.Proofs.YtkncboinfcnklaaGreatDoor.Lw
