import Derived.Test.YtkncboinfcnklaaGreatDoorKU
import Derived.Test.YtkncboinfcnklaaGreatDoorKY
namespace Go.Proofs.YtkncboinfcnklaaGreatDoor.Kp
open Go.RowKit Go.Deep Go.Shelf Go.Proofs.YtkncboinfcnklaaGreatDoor.Mth

/-- A shelf whose workers step. -/
def Rs (w wr : World) (B N M lb sb hb f nw : Nat) (all : List Ent) (tls : List Fo) (P : Lg → Prop) : Prop := ∃ L, ShX w wr B N M lb sb hb L all tls ∧ L.fan = f ∧ L.wks.length = nw ∧ P L
theorem Rs.imp {w wr : World} {B N M lb sb hb f nw : Nat} {all : List Ent} {tls : List Fo} {P Q : Lg → Prop} (h : Rs w wr B N M lb sb hb f nw all tls P) (hi : ∀ L, Inv L all → L.fan = f → L.wks.length = nw → P L → Q L) : Rs w wr B N M lb sb hb f nw all tls Q := by
  obtain ⟨L, hx, h1, h2, h3⟩ := h
  have hv : Inv L all := by
    obtain ⟨⟨ρ, G, av, tv, hs⟩, _⟩ := hx
    exact hs.inv
  exact ⟨L, hx, h1, h2, hi L hv h1 h2 h3⟩
theorem Rs.below {w wr w' : World} {B N M lb sb hb f nw : Nat} {all : List Ent} {tls : List Fo} {P : Lg → Prop} (h : Rs w wr B N M lb sb hb f nw all tls P) (hB : B ≤ w.heap.size) (hb' : Below wr.heap.size wr w') : Rs w w' B N M lb sb hb f nw all tls P := by
  obtain ⟨L, ⟨⟨ρ, G, av, tv, hs⟩, hbel⟩, h1, h2, h3⟩ := h
  exact ⟨L, (hs.shx (Nat.le_trans hB hbel.size) hb').pre hbel, h1, h2, h3⟩
theorem Rs.cells {w wr : World} {B N M lb sb hb f nw : Nat} {all : List Ent} {tls : List Fo} {P : Lg → Prop} (h : Rs w wr B N M lb sb hb f nw all tls P) : wr.cell? ⟨sb, 0, none⟩ = some (ptrV lb) ∧ wr.cell? ⟨sb, 3, none⟩ = some (.int .i64 (f : Int)) ∧ wr.cell? ⟨sb, 5, none⟩ = some (.int .i64 (nw : Int)) ∧ ∃ va vc, wr.cell? ⟨sb, 8, none⟩ = some (.slice va all.length vc) := by
  obtain ⟨L, ⟨⟨ρ, G, av, tv, hs⟩, hbel⟩, h1, h2, h3⟩ := h
  obtain ⟨va, vc, hva, _, _⟩ := own_slice hs.mem.row
  subst hva
  refine ⟨(hs.cell (j := 0) rfl).1, ?_, ?_, va, vc, (hs.cell (j := 8) rfl).1⟩
  · rw [← h1]; exact (hs.cell (j := 3) rfl).1
  · rw [← h2]; exact (hs.cell (j := 5) rfl).1
theorem rs_step {w wr : World} {B N M lb sb hb f nw : Nat} {all : List Ent} {tls : List Fo} {P : Lg → Prop} (hB : B ≤ w.heap.size) (ht : TabB B w) (h : Rs w wr B N M lb sb hb f nw all tls P) {q : Nat} (hq : q < nw) (hM : M ≤ 400000) :
    Calls Tryz.prog 23 #[ptrV lb, .int .i64 (q : Int)] wr fun e w' => ∃ r, e = .returned (.tuple #[.int .i64 r, .int .i64 0]) ∧ Rs w w' B N M lb sb hb f nw all tls (fun L' => ∃ L, Inv L all ∧ L.wks.length = nw ∧ P L ∧ StepR L q r L') := by
  obtain ⟨L, ⟨⟨ρ, G, av, tv, hs⟩, hbel⟩, h1, h2, h3⟩ := h
  have hBr := Nat.le_trans hB hbel.size
  refine (step_sh hs hBr (ht.next hbel) (by omega) hM).mono ?_
  rintro e w' ⟨r, L', ρ', G', rfl, hr, hSh, hst⟩
  obtain ⟨s1, s2, s3, s4, s5, s6, s7, s8, s9, s10⟩ := StepR.same hr
  have hB' := below_lstp (Below.refl B wr) hst hs.log.x.lt hBr
  exact ⟨r, rfl, L', ⟨⟨ρ', G', av, tv, hSh⟩, hbel.trans hB'⟩, by first | (rw [s2]; exact h1) | (rw [s1]; exact h1) | omega, by first | (rw [s7]; exact h2) | omega, L, hs.inv, h2, h3, hr⟩
theorem rs_pend {w wr : World} {B N M lb sb hb f nw : Nat} {all : List Ent} {tls : List Fo} (h : Rs w wr B N M lb sb hb f nw all tls (fun L => pends L.wks = 0)) :
    Calls Tryz.prog 24 #[ptrV lb] wr fun e w' => e = .returned (.int .i64 0) ∧ Below wr.heap.size wr w' := by
  obtain ⟨L, ⟨⟨ρ, G, av, tv, hs⟩, hbel⟩, h1, h2, h3⟩ := h
  have := pend_any hs.log.x
  rw [h3] at this
  exact this
theorem rs_quiet {w wr : World} {B N M lb sb hb f nw : Nat} {all : List Ent} {tls : List Fo} (hB : B ≤ w.heap.size) (ht : TabB B w) (h : Rs w wr B N M lb sb hb f nw all tls (fun L => pends L.wks = 0)) (hn : 0 < nw) (hM : M ≤ 400000) :
    Calls Tryz.prog 23 #[ptrV lb, .int .i64 0] wr fun e w' => e = .returned (.tuple #[.int .i64 0, .int .i64 0]) ∧ Rs w w' B N M lb sb hb f nw all tls (fun L => pends L.wks = 0) := by
  refine (rs_step hB ht h hn hM).mono ?_
  rintro e w' ⟨r, rfl, L', hx, h1, h2, L, hi, hl, hp, hr⟩
  obtain ⟨rfl, rfl⟩ := quiet_step hp (by omega) (by omega) hr
  exact ⟨rfl, L', hx, h1, h2, hp⟩
theorem rs_levels {w wr : World} {B N M lb sb hb f nw : Nat} {all : List Ent} {tls : List Fo} (h : Rs w wr B N M lb sb hb f nw all tls (fun L => pends L.wks = 0)) (hM : M ≤ 400000) :
    Calls Tryz.prog 25 #[ptrV lb] wr fun e w' => ∃ rb, e = .returned (.slice (some ⟨rb, 0, none⟩) 6 6) ∧ Below wr.heap.size wr w' ∧ ∀ i, i < 5 → ∃ a c n, n < f ∧ n ≤ c ∧ c ≤ maxLen ∧ w'.cell? ⟨rb, i, none⟩ = some (.slice a n c) := by
  obtain ⟨L, ⟨⟨ρ, G, av, tv, hs⟩, hbel⟩, h1, h2, h3⟩ := h
  have hbd := hs.bud
  refine (levels_any hs.log.x (fun i hi j hj => ?_) (fun i hi => by have := hs.inv.lev i hi; omega)).mono ?_
  · have hm : (L.lev i).getD j [] ∈ segs L.lev := lev_segs hi (by rw [← List.getElem_eq_getD (h := hj)]; exact List.getElem_mem hj)
    have h4 := hs.inv.ne _ hm
    have h5 := (hs.inv.segSub hm).length_le
    refine ⟨List.length_pos_iff.2 h4, by omega⟩
  · rintro e w' ⟨rb, vs, rfl, hI⟩
    refine ⟨rb, rfl, hI.bel, fun i hi => ?_⟩
    obtain ⟨a, c, hv, hc, hm⟩ := own_slice (hI.row i (by omega))
    have hr := hs.inv.rest h3 i (by omega)
    refine ⟨a, c, (L.lev i).length, by omega, hc, hm, ?_⟩
    rw [← hv]
    exact (cell_of (j := i) hI.blk (ar6_at _ (by omega))).1
theorem rs_found {w wr : World} {B N M lb sb hb f nw : Nat} {all : List Ent} {tls : List Fo} {P : Lg → Prop} (hB : B ≤ w.heap.size) (ht : TabB B w) (h : Rs w wr B N M lb sb hb f nw all tls P) (lo hi : Int) (hM : M ≤ 400000) :
    Calls Tryz.prog 20 #[ptrV sb, .int .i64 lo, .int .i64 hi] wr fun e w' => e = .returned (.bool true) ∧ Below wr.heap.size wr w' := by
  obtain ⟨L, ⟨⟨ρ, G, av, tv, hs⟩, hbel⟩, h1, h2, h3⟩ := h
  exact found_any hs (Nat.le_trans hB hbel.size) (ht.next hbel) lo hi hM
theorem rs_append {w wr : World} {B N M lb sb hb f nw : Nat} {all : List Ent} {tls : List Fo} (hB : B ≤ w.heap.size) (ht : TabB B w) (h : Rs w wr B N M lb sb hb f nw all tls (fun L => pends L.wks = 0)) (s : ByteArray) (hs60 : s.size ≤ 60) (hM : M ≤ 400000) :
    Calls Tryz.prog 26 #[ptrV lb, .string s] wr fun e w' => e = .returned (.tuple #[.int .i64 (all.length : Int), .int .i64 0]) ∧ Below B w w' ∧ ∃ va vc, w'.cell? ⟨sb, 8, none⟩ = some (.slice va all.length vc) := by
  obtain ⟨L, ⟨⟨ρ, G, av, tv, hs⟩, hbel⟩, h1, h2, h3⟩ := h
  have hBr := Nat.le_trans hB hbel.size
  have hcf := hs.inv.cfg
  have hbd := hs.bud
  have hml := hs.inv.ml
  have hcnt := hs.inv.cnt
  have hr := hs.inv.rest h3 0 (by omega)
  have CA0 := append_ok hs.log hBr (ht.next hbel) s (by rw [hs.left]; omega) (by rw [hs.left]; omega) (by rw [hs.left]; omega) (by rw [hs.left]; omega) hs60 (by omega) hcf.2.1.2 hcf.2.2.1 (fun i hi => by have := hs.inv.lev i hi; omega) (by omega) (by omega) (by omega)
  rw [hcnt] at CA0
  refine CA0.mono ?_
  rintro e w' ⟨rfl, ha⟩
  obtain ⟨⟨ρ2, G2, a1, a2, a3, a4, a5⟩⟩ := ha
  have hm := hs.mem.keep a2
  obtain ⟨va, vc, hva, _, _⟩ := own_slice hm.row
  subst hva
  exact ⟨rfl, hbel.trans (below_lstp (Below.refl B wr) a2 hs.log.x.lt hBr), va, vc, (cell_of (j := 8) hm.blk rfl).1⟩
end Go.Proofs.YtkncboinfcnklaaGreatDoor.Kp
