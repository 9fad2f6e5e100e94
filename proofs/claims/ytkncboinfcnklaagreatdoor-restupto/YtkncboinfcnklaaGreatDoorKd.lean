import Derived.Test.YtkncboinfcnklaaGreatDoorGk
import Derived.Test.YtkncboinfcnklaaGreatDoorKc
namespace Go.Proofs.YtkncboinfcnklaaGreatDoor
open Go.RowKit Go.Deep Go.Shelf Go.Proofs.YtkncboinfcnklaaGreatDoor.Mth

def hsW (x : ByteArray) (e : Ent) : Bool := memD x (wd e.text)
/-- What a tail reads is what comes next. -/
theorem Inv.told {L : Lg} {all : List Ent} (h : Inv L all) {z : Int} {x : ByteArray} {p : Nat} (ht : L.tls z = some (x, p)) (b : Nat) : rdT x p b (segs L.lev ++ [L.mem]) = tld (hsW x) all p b := by
  have e1 : (segs L.lev ++ [L.mem]).flatten = sto L := by unfold sto; rw [List.flatten_append]; simp
  unfold rdT tld
  rw [e1, h.filter (fq x p) (fun e he hq => ?_)]
  · have := h.ok.from (hsW x) p
    rw [← this]
    rfl
  · by_cases hin : e ∈ sto L
    · exact hin
    · have := (h.gone e he hin).2 z (x, p) ht
      unfold fq at hq
      simp only [Bool.and_eq_true, decide_eq_true_eq] at hq
      omega
/-- In the midst of a Poll. -/
structure PI (f : Ent → Bool) (all : List Ent) (p b t : Nat) : Prop where
  le : p ≤ t ∧ t ≤ all.length
  or : tkn f all p t < b ∨ (p < t ∧ tkn f all p (t - 1) + 1 = b ∧ tkn f all p t = b ∧ f (all.getD (t - 1) e0) = true)
theorem PI.start {f : Ent → Bool} {all : List Ent} {p b : Nat} (hp : p ≤ all.length) (hb : 1 ≤ b) : PI f all p b p := ⟨⟨Nat.le_refl _, hp⟩, Or.inl (by rw [tkn_start]; omega)⟩
theorem PI.next {f : Ent → Bool} {all : List Ent} {p b t : Nat} (h : PI f all p b t) (ht : t < all.length) (hk : tkn f all p t < b) : PI f all p b (t + 1) := by
  have hn := tkn_next (f := f) h.le.1 ht
  refine ⟨⟨by have := h.le; omega, by omega⟩, ?_⟩
  by_cases hf : f (all.getD t e0) = true
  · rw [if_pos hf] at hn
    by_cases hb : tkn f all p t + 1 < b
    · exact Or.inl (by omega)
    · exact Or.inr ⟨by have := h.le; omega, by rw [Nat.add_sub_cancel]; omega, by omega, by rw [Nat.add_sub_cancel]; exact hf⟩
  · rw [if_neg hf] at hn
    exact Or.inl (by omega)
theorem PI.done {f : Ent → Bool} {all : List Ent} {c p b t : Nat} (ho : AllOk all c) (h : PI f all p b t) (he : t = all.length ∨ tkn f all p t = b) : plc (tld f all p b) b all.length = t ∧ (tld f all p b).length = tkn f all p t := by
  rcases h.or with h1 | ⟨h1, h2, h3, h4⟩
  · have ht : t = all.length := by rcases he with q | q; exact q; omega
    have hl := tld_len (f := f) (all := all) (p := p) (b := b)
    rw [← ht] at hl
    rw [Nat.min_eq_right (by omega)] at hl
    refine ⟨?_, hl⟩
    unfold plc
    rw [if_neg (by omega)]
    exact ht.symm
  · have hl := tkn_full (f := f) (all := all) (b := b) h.le.1 h3
    refine ⟨?_, by omega⟩
    have hat := tld_at (b := b) (f := f) (all := all) (p := p) (t := t - 1) (by omega) (by have := h.le; omega) h4 (by omega)
    unfold plc
    rw [if_pos hl, show b - 1 = tkn f all p (t - 1) by omega, hat.2, ho.num (t - 1) (by have := h.le; omega)]
    omega
theorem Inv.toldSeq {L : Lg} {all : List Ent} (h : Inv L all) {f : Ent → Bool} {p b : Nat} : ∀ e ∈ tld f all p b, 0 ≤ e.seq ∧ e.seq < (all.length : Int) := fun e he => by
  obtain ⟨j, hj, e1, _⟩ := h.ok.mem (tld_mem he).1
  omega
end Go.Proofs.YtkncboinfcnklaaGreatDoor

namespace Go.Proofs.YtkncboinfcnklaaGreatDoor.Kp
open Go.RowKit Go.Deep Go.Shelf Go.Proofs.YtkncboinfcnklaaGreatDoor.Mth

theorem foC_at : ∀ {l : List Fo} {j : Nat}, j < l.length → (l.flatMap foC)[j * 4]? = some (.int .i64 ((l.getD j fo0).num : Int)) ∧ (l.flatMap foC)[j * 4 + 1]? = some (.string (l.getD j fo0).word) ∧ (l.flatMap foC)[j * 4 + 2]? = some (.int .i64 ((l.getD j fo0).next : Int)) ∧ (l.flatMap foC)[j * 4 + 3]? = some (.bool (l.getD j fo0).there)
  | f :: l, 0, _ => by simp [foC]
  | f :: l, j + 1, h => by
    obtain ⟨h1, h2, h3, h4⟩ := foC_at (l := l) (j := j) (by simpa using h)
    have e0 : (j + 1) * 4 = j * 4 + 4 := by omega
    have e1 : (j + 1) * 4 + 1 = j * 4 + 1 + 4 := by omega
    have e2 : (j + 1) * 4 + 2 = j * 4 + 2 + 4 := by omega
    have e3 : (j + 1) * 4 + 3 = j * 4 + 3 + 4 := by omega
    rw [e1, e2, e3, e0]
    simp only [List.flatMap_cons, foC, List.cons_append, List.nil_append, List.getElem?_cons_succ, List.getD_cons_succ]
    exact ⟨h1, h2, h3, h4⟩
theorem Sh.fol {w : World} {ρ : Nat → Nat} {B N M lb sb hb : Nat} {G : Gh} {L : Lg} {all : List Ent} {tls : List Fo} {av tv : Value} (h : Sh w ρ B N M lb sb hb G L all tls av tv) {i : Nat} (hi : i < tls.length) : ∃ g c, tv = .slice (some ⟨g, 0, none⟩) tls.length c ∧ tls.length ≤ c ∧ c ≤ maxLen ∧ w.cell? ⟨g, i * 4, none⟩ = some (.int .i64 ((tls.getD i fo0).num : Int)) ∧ w.cell? ⟨g, i * 4 + 1, none⟩ = some (.string (tls.getD i fo0).word) ∧ w.cell? ⟨g, i * 4 + 2, none⟩ = some (.int .i64 ((tls.getD i fo0).next : Int)) ∧ w.cell? ⟨g, i * 4 + 3, none⟩ = some (.bool (tls.getD i fo0).there) := by
  obtain ⟨a, c, e, hc, hm⟩ := own_slice h.mem.trow
  have hrow := h.mem.trow
  rw [e] at hrow
  obtain ⟨g, rfl⟩ := own_some hrow (by omega)
  obtain ⟨h1, h2, h3, h4⟩ := foC_at hi
  exact ⟨g, c, e, hc, hm, own_get hrow h1, own_get hrow h2, own_get hrow h3, own_get hrow h4⟩
theorem wds_wd {x : ByteArray} (h : x ∈ wds) : 0 < x.size ∧ x.size ≤ 60 := by
  simp only [wds, List.mem_cons, List.not_mem_nil, or_false] at h
  rcases h with rfl | rfl | rfl | rfl | rfl | rfl <;> decide
theorem wf_nat {n : Nat} (h : n ≤ 1000000000000) : wf64 (n : Int) := by unfold wf64; simp [Lit.wf, IntKind.min, IntKind.max, IntKind.signed, IntKind.bits]; omega

set_option maxRecDepth 100000 in
set_option maxHeartbeats 1000000 in
theorem polls_no {w : World} {ρ : Nat → Nat} {B N M lb sb hb : Nat} {G : Gh} {L : Lg} {all : List Ent} {tls : List Fo} {av tv : Value} (h : Sh w ρ B N M lb sb hb G L all tls av tv) (hB : B ≤ w.heap.size) {i : Nat} (hi : i < tls.length) (hno : (tls.getD i fo0).there = false) (hM : M ≤ 400000) :
    Calls Tryz.prog 22 #[ptrV sb, .int .i64 (i : Int)] w fun e w' => e = .returned (.tuple #[]) ∧ ShX w w' B N M lb sb hb L all tls := by
  obtain ⟨g, c, rfl, hc, hm, q0, q1, q2, q3⟩ := h.fol hi
  have hat := h.tl.at_ i hi
  have hbd := h.bud
  rw [hno] at q3 hat
  rw [if_neg (by decide)] at hat
  rw [(h.tl.num i hi).1] at q0
  obtain ⟨c12, _⟩ := h.cell (j := 12) (u := .slice (some ⟨g, 0, none⟩) tls.length c) rfl
  generalize (tls.getD i fo0).word = y at *
  generalize (tls.getD i fo0).next = p at *
  have hb1 := below_allocG w (Obj.cells #[.int .i64 (i : Int), .string y, .int .i64 (p : Int), .bool false] 63)
  have hk1 := new_blk w #[.int .i64 (i : Int), .string y, .int .i64 (p : Int), .bool false] 63
  obtain ⟨w1, hw1⟩ : ∃ w1, w1 = w.alloc (Obj.cells #[.int .i64 (i : Int), .string y, .int .i64 (p : Int), .bool false] 63) := ⟨_, rfl⟩
  obtain ⟨nb, hnb⟩ : ∃ nb, nb = w.heap.size := ⟨_, rfl⟩
  rw [← hw1] at hb1 hk1
  rw [← hnb] at hk1
  have h1 := h.below hb1
  have hnlt : nb < w1.heap.size := (Array.getElem?_eq_some_iff.1 hk1).1
  have CP : Hid (∀ W, Below w1.heap.size w1 W → Calls Tryz.prog 52 #[ptrV lb, .int .i64 (i : Int)] W fun e w' => e = .returned (.tuple #[.slice none 0 0, .int .i64 8]) ∧ Below W.heap.size W w') := fun W hb' => poll_no (h1.below hb').log.x (wf_nat (by omega)) hat
  have HX : Hid (∀ W, Below w1.heap.size w1 W → W.cell? ⟨nb, 3, none⟩ = some (.bool false) ∧ ShX w W B N M lb sb hb L all tls) := fun W hb' => ⟨(cell_of (j := 3) ((hb'.block nb hnlt).trans hk1) rfl).1, h.shx hB (hb1.trans (hb'.mono hb1.size))⟩
  obtain ⟨d0, _⟩ := h1.cell (j := 0) (u := ptrV lb) rfl
  obtain ⟨n0, _⟩ := cell_of (j := 0) (u := .int .i64 (i : Int)) hk1 rfl
  have HW1 := hide hw1
  have HNB := hide hnb
  unfold maxLen at hm
  clear h h1 hb1 hk1 hw1 hnb hat
  have hiI : (i : Int) < (tls.length : Int) := by omega
  go_enter Tryz.func22, Tryz.ntmps22
  go_upto_region 1 with fail
  rw [← HW1.out, ← HNB.out]
  go_region_held3 (fun w' => w'.cell? ⟨sb, 0, none⟩ = some (ptrV lb) ∧ w'.cell? ⟨nb, 0, none⟩ = some (.int .i64 (i : Int))) (first | exact ⟨d0, n0⟩ | exact ⟨m0, m1⟩ | fail)
    (first | (go_at_call 52; refine (CP.out _ (drewB w1)).mono ?_; rintro e w3 ⟨rfl, hb3⟩; have hb3' := below_drew1 hb3; obtain ⟨d3, hx⟩ := HX.out w3 hb3'; have HXX := hide hx; have m0 := (hb3'.cell (p := ⟨sb, 0, none⟩) (World.block_lt_of_cell? _ _ d0)).trans d0; have m1 := (hb3'.cell (p := ⟨nb, 0, none⟩) hnlt).trans n0; clear hb3 hb3' hx))
  go_wp2_with fail
  exact bodyPost_ret (results_none rfl _ _ _) rfl ⟨rfl, HXX.out⟩
end Go.Proofs.YtkncboinfcnklaaGreatDoor.Kp

namespace Go.Proofs.YtkncboinfcnklaaGreatDoor.Kp
open Go.RowKit Go.Deep Go.Shelf Go.Proofs.YtkncboinfcnklaaGreatDoor.Mth

theorem foC_set : ∀ {l : List Fo} {k : Nat} (f : Fo), k < l.length → ((((l.flatMap foC).set (k * 4) (.int .i64 (f.num : Int))).set (k * 4 + 1) (.string f.word)).set (k * 4 + 2) (.int .i64 (f.next : Int))).set (k * 4 + 3) (.bool f.there) = (l.set k f).flatMap foC
  | g :: l, 0, f, _ => by simp [foC]
  | g :: l, k + 1, f, h => by
    have ih := foC_set (l := l) (k := k) f (by simpa using h)
    have e1 : (k + 1) * 4 + 1 = (k * 4 + 1) + 4 := by omega
    have e2 : (k + 1) * 4 + 2 = (k * 4 + 2) + 4 := by omega
    have e3 : (k + 1) * 4 + 3 = (k * 4 + 3) + 4 := by omega
    have e0 : (k + 1) * 4 = k * 4 + 4 := by omega
    rw [e1, e2, e3, e0, List.flatMap_cons, List.set_cons_succ, List.flatMap_cons, ← ih]
    simp [foC]
/-- A follower is written anew. -/
theorem ShM.tset {w : World} {ρ : Nat → Nat} {B N lb sb g c : Nat} {G : Gh} {L : Lg} {C : Array Value} {all : List Ent} {tls : List Fo} {av : Value} (hl : LogAt w ρ B N lb G L) (h : ShM w ρ B sb C all tls av (.slice (some ⟨g, 0, none⟩) tls.length c)) (hB : B ≤ w.heap.size) {i : Nat} (hi : i < tls.length) (f : Fo) :
    LogAt ((((w.setCell ⟨g, i * 4, none⟩ (.int .i64 (f.num : Int))).setCell ⟨g, i * 4 + 1, none⟩ (.string f.word)).setCell ⟨g, i * 4 + 2, none⟩ (.int .i64 (f.next : Int))).setCell ⟨g, i * 4 + 3, none⟩ (.bool f.there)) ρ B N lb G L ∧ ShM ((((w.setCell ⟨g, i * 4, none⟩ (.int .i64 (f.num : Int))).setCell ⟨g, i * 4 + 1, none⟩ (.string f.word)).setCell ⟨g, i * 4 + 2, none⟩ (.int .i64 (f.next : Int))).setCell ⟨g, i * 4 + 3, none⟩ (.bool f.there)) ρ B sb C all (tls.set i f) av (.slice (some ⟨g, 0, none⟩) tls.length c) ∧ Below B w ((((w.setCell ⟨g, i * 4, none⟩ (.int .i64 (f.num : Int))).setCell ⟨g, i * 4 + 1, none⟩ (.string f.word)).setCell ⟨g, i * 4 + 2, none⟩ (.int .i64 (f.next : Int))).setCell ⟨g, i * 4 + 3, none⟩ (.bool f.there)) := by
  have hT : Tch (fun k => k = g) w ((((w.setCell ⟨g, i * 4, none⟩ (.int .i64 (f.num : Int))).setCell ⟨g, i * 4 + 1, none⟩ (.string f.word)).setCell ⟨g, i * 4 + 2, none⟩ (.int .i64 (f.next : Int))).setCell ⟨g, i * 4 + 3, none⟩ (.bool f.there)) := ⟨rfl, rfl, rfl, by simp, fun k _ hne => by rw [set_other hne, set_other hne, set_other hne, set_other hne]⟩
  obtain ⟨hgB, hgl, D, hD⟩ := own_block h.trow (g := g) rfl
  have hgs : sb ≠ g := fun e => by
    rw [← e] at hD
    exact absurd (cells_ty h.blk hD) (by decide)
  have hrow := own_store (y := .bool f.there) (own_store (y := .int .i64 (f.next : Int)) (own_store (y := .string f.word) (own_store (y := .int .i64 (f.num : Int)) h.trow (i := i * 4) (by omega)) (i := i * 4 + 1) (by omega)) (i := i * 4 + 2) (by omega)) (i := i * 4 + 3) (by omega)
  rw [foC_set f hi] at hrow
  refine ⟨off hl hT (fun k _ e => by rw [e]; exact ⟨h.rt g rfl, notN' hD (by decide)⟩), ⟨(hT.block sb (Array.getElem?_eq_some_iff.1 h.blk).1 hgs).trans h.blk, own_same h.row (fun k hk => hT.block k (own_block h.row hk).2.1 (fun e => ?_)), by rw [List.length_set]; exact hrow, h.rs, h.ra, h.rt, h.ge⟩, below_tch (Below.refl B w) hT (fun k e => by rw [e]; exact hgB) hB⟩
  obtain ⟨_, _, D', hD'⟩ := own_block h.row hk
  rw [e] at hD'
  exact absurd (cells_ty hD hD') (by decide)
theorem getD_setF (l : List Fo) {i : Nat} (f : Fo) (j : Nat) (hi : i < l.length) : (l.set i f).getD j fo0 = if j = i then f else l.getD j fo0 := by
  by_cases e : j = i
  · subst e
    rw [if_pos rfl]
    simp [List.getD, hi]
  · rw [if_neg e]
    simp [List.getD, Ne.symm e]
/-- A tail goes on. -/
theorem TlR.goOn {L : Lg} {tls : List Fo} {n i t : Nat} {y : ByteArray} (h : TlR L tls n) (hi : i < tls.length) (hy : (tls.getD i fo0).word = y) (ht : t ≤ n) (_hth : (tls.getD i fo0).there = true) : TlR { L with tls := fun z => if z = (i : Int) then some (y, t) else L.tls z } (tls.set i ⟨i, y, t, true⟩) n := by
  refine ⟨fun j hj => ?_, fun j hj => ?_, fun x hx => ?_, by rw [List.length_set]; exact h.subs, h.few⟩
  · rw [List.length_set] at hj
    rw [getD_setF tls _ j hi]
    by_cases e : j = i
    · rw [if_pos e]
      exact ⟨e.symm, by rw [← hy]; exact (h.num i hi).2.1, ht⟩
    · rw [if_neg e]; exact h.num j hj
  · rw [List.length_set] at hj
    rw [getD_setF tls _ j hi]
    simp only
    by_cases e : j = i
    · rw [if_pos e, if_pos (by omega)]
      rfl
    · rw [if_neg e, if_neg (by omega)]; exact h.at_ j hj
  · rw [List.length_set] at hx
    simp only
    rw [if_neg (by omega)]
    exact h.out x hx
/-- In the midst of the loop of polls. -/
structure LpI (w3 wr : World) (nb i : Nat) (y : ByteArray) (all : List Ent) (p b t : Nat) : Prop where
  tch : Tch (fun k => k = nb) w3 wr
  blk : wr.heap[nb]? = some (Obj.cells #[.int .i64 (i : Int), .string y, .int .i64 (t : Int), .bool true] 63 (0, 0))
  pi : PI (hsW y) all p b t
theorem LpI.below {w3 wr w' : World} {nb i p b t : Nat} {y : ByteArray} {all : List Ent} (h : LpI w3 wr nb i y all p b t) (hb : Below wr.heap.size wr w') : LpI w3 w' nb i y all p b t :=
  ⟨h.tch.trans (tch_below (S := fun k => k = nb) hb) (fun _ _ q => q), (hb.block nb (Array.getElem?_eq_some_iff.1 h.blk).1).trans h.blk, h.pi⟩
theorem LpI.next {w3 wr : World} {nb i p b t : Nat} {y : ByteArray} {all : List Ent} (h : LpI w3 wr nb i y all p b t) (ht : t < all.length) (hk : tkn (hsW y) all p t < b) : LpI w3 (wr.setCell ⟨nb, 2, none⟩ (.int .i64 ((t : Int) + 1))) nb i y all p b (t + 1) := by
  refine ⟨⟨h.tch.os, h.tch.tape, h.tch.output, by have := h.tch.size; simpa using this, fun k hk hne => by rw [set_other hne]; exact h.tch.block k hk hne⟩, ?_, h.pi.next ht hk⟩
  have := setCell_blk (j := 2) (v := .int .i64 ((t : Int) + 1)) h.blk
  rw [Int.natCast_add]
  exact this
end Go.Proofs.YtkncboinfcnklaaGreatDoor.Kp
