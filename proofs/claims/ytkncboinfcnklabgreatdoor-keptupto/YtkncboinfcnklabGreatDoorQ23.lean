import Derived.Test.YtkncboinfcnklabGreatDoorQ22
import Derived.Test.YtkncboinfcnklabGreatDoorQ21
namespace Go.Proofs.YtkncboinfcnklabGreatDoor.Kp
open Go.RowKit Go.Deep Go.Proofs.YtkncboinfcnklabGreatDoor.Mth

theorem below_drewR {n : Nat} {w W : World} (h : Below n w W) : Below n w W.drew := ⟨h.os, h.tape, h.output, h.size, h.block⟩
theorem heap_drew (W : World) (k : Nat) : W.drew.heap[k]? = W.heap[k]? := rfl
set_option maxRecDepth 100000 in
set_option maxHeartbeats 8000000 in
theorem config_any (c0 c1 c2 c3 c4 c5 : Int) (w : World) (h0 : I64 c0) (h1 : I64 c1) (h2 : I64 c2) (h3 : I64 c3) (h4 : I64 c4) (h5 : I64 c5) :
    Calls Tryz.prog 23 #[.agg #[.int .i64 c0, .int .i64 c1, .int .i64 c2, .int .i64 c3, .int .i64 c4, .int .i64 c5]] w fun e w' => e = .returned (.agg #[.int .i64 (1 + pkI c0 8), .int .i64 (2 + pkI c1 3), .int .i64 (pkI c2 5), .int .i64 (1 + pkI c3 4), .int .i64 (1 + pkI c4 1000000), .int .i64 (1 + pkI c5 8)]) ∧ Below w.heap.size w w' := by
  have HB1 := hide (below_allocG w (Obj.cells #[.int .i64 c0, .int .i64 c1, .int .i64 c2, .int .i64 c3, .int .i64 c4, .int .i64 c5] 23))
  have C0 : Hid (∀ w, Calls Tryz.prog 7 #[.int .i64 c0, .int .i64 8] w fun e w' => e = .returned (.int .i64 (pkI c0 8)) ∧ w' = w) := fun w => pick_any c0 8 w h0.1 h0.2 (by omega) (by omega)
  have C1 : Hid (∀ w, Calls Tryz.prog 7 #[.int .i64 c1, .int .i64 3] w fun e w' => e = .returned (.int .i64 (pkI c1 3)) ∧ w' = w) := fun w => pick_any c1 3 w h1.1 h1.2 (by omega) (by omega)
  have C2 : Hid (∀ w, Calls Tryz.prog 7 #[.int .i64 c2, .int .i64 5] w fun e w' => e = .returned (.int .i64 (pkI c2 5)) ∧ w' = w) := fun w => pick_any c2 5 w h2.1 h2.2 (by omega) (by omega)
  have C3 : Hid (∀ w, Calls Tryz.prog 7 #[.int .i64 c3, .int .i64 4] w fun e w' => e = .returned (.int .i64 (pkI c3 4)) ∧ w' = w) := fun w => pick_any c3 4 w h3.1 h3.2 (by omega) (by omega)
  have C4 : Hid (∀ w, Calls Tryz.prog 7 #[.int .i64 c4, .int .i64 1000000] w fun e w' => e = .returned (.int .i64 (pkI c4 1000000)) ∧ w' = w) := fun w => pick_any c4 1000000 w h4.1 h4.2 (by omega) (by omega)
  have C5 : Hid (∀ w, Calls Tryz.prog 7 #[.int .i64 c5, .int .i64 8] w fun e w' => e = .returned (.int .i64 (pkI c5 8)) ∧ w' = w) := fun w => pick_any c5 8 w h5.1 h5.2 (by omega) (by omega)
  have b0 := pkI_bd c0 8 (by omega)
  have b1 := pkI_bd c1 3 (by omega)
  have b2 := pkI_bd c2 5 (by omega)
  have b3 := pkI_bd c3 4 (by omega)
  have b4 := pkI_bd c4 1000000 (by omega)
  have b5 := pkI_bd c5 8 (by omega)
  generalize pkI c0 8 = p0 at *
  generalize pkI c1 3 = p1 at *
  generalize pkI c2 5 = p2 at *
  generalize pkI c3 4 = p3 at *
  generalize pkI c4 1000000 = p4 at *
  generalize pkI c5 8 = p5 at *
  clear h0 h1 h2 h3 h4 h5
  go_enter Tryz.func23, Tryz.ntmps23
  go_wp2_with fail
  have HB2 := hide (HB1.out.trans ((below_allocG (w.alloc (Obj.cells #[.int .i64 c0, .int .i64 c1, .int .i64 c2, .int .i64 c3, .int .i64 c4, .int .i64 c5] 23)) (Obj.cells #[.int .i64 0, .int .i64 0, .int .i64 0, .int .i64 0, .int .i64 0, .int .i64 0] 32)).mono HB1.out.size))
  have hk1 := old_blk (Obj.cells #[.int .i64 0, .int .i64 0, .int .i64 0, .int .i64 0, .int .i64 0, .int .i64 0] 32) (new_blk w #[.int .i64 c0, .int .i64 c1, .int .i64 c2, .int .i64 c3, .int .i64 c4, .int .i64 c5] 23)
  have hk2 := new_blk (w.alloc (Obj.cells #[.int .i64 c0, .int .i64 c1, .int .i64 c2, .int .i64 c3, .int .i64 c4, .int .i64 c5] 23)) #[.int .i64 0, .int .i64 0, .int .i64 0, .int .i64 0, .int .i64 0, .int .i64 0] 32
  rw [World.size_alloc] at hk2
  generalize (w.alloc (Obj.cells #[.int .i64 c0, .int .i64 c1, .int .i64 c2, .int .i64 c3, .int .i64 c4, .int .i64 c5] 23)).alloc (Obj.cells #[.int .i64 0, .int .i64 0, .int .i64 0, .int .i64 0, .int .i64 0, .int .i64 0] 32) = w2 at *
  obtain ⟨nb, hnb⟩ : ∃ nb, nb = w.heap.size := ⟨_, rfl⟩
  obtain ⟨rb, hrb⟩ : ∃ rb, rb = w.heap.size + 1 := ⟨_, rfl⟩
  rw [← hrb] at hk2 ⊢
  rw [← hnb] at hk1 ⊢
  have hne : nb ≠ rb := by omega
  have FIN : Hid (∀ (v0 v1 v2 v3 v4 v5 : Value), Below w.heap.size w ((((((w2.setCell ⟨rb, 0, none⟩ v0).setCell ⟨rb, 1, none⟩ v1).setCell ⟨rb, 2, none⟩ v2).setCell ⟨rb, 3, none⟩ v3).setCell ⟨rb, 4, none⟩ v4).setCell ⟨rb, 5, none⟩ v5).drew ∧ ((((((w2.setCell ⟨rb, 0, none⟩ v0).setCell ⟨rb, 1, none⟩ v1).setCell ⟨rb, 2, none⟩ v2).setCell ⟨rb, 3, none⟩ v3).setCell ⟨rb, 4, none⟩ v4).setCell ⟨rb, 5, none⟩ v5).drew.heap[rb]? = some (Obj.cells #[v0, v1, v2, v3, v4, v5] 32 (0, 0))) := by
    intro v0 v1 v2 v3 v4 v5
    have hB3 := HB2.out
    have hx := below_set (j := 5) (v := v5) (below_set (j := 4) (v := v4) (below_set (j := 3) (v := v3) (below_set (j := 2) (v := v2) (below_set (j := 1) (v := v1) (below_set (j := 0) (v := v0) hB3 (show w.heap.size ≤ rb by omega)) (show w.heap.size ≤ rb by omega)) (show w.heap.size ≤ rb by omega)) (show w.heap.size ≤ rb by omega)) (show w.heap.size ≤ rb by omega)) (show w.heap.size ≤ rb by omega)
    have hy := setCell_blk (j := 5) (v := v5) (setCell_blk (j := 4) (v := v4) (setCell_blk (j := 3) (v := v3) (setCell_blk (j := 2) (v := v2) (setCell_blk (j := 1) (v := v1) (setCell_blk (j := 0) (v := v0) hk2)))))
    have e : ((((((#[.int .i64 0, .int .i64 0, .int .i64 0, .int .i64 0, .int .i64 0, .int .i64 0] : Array Value).setIfInBounds 0 v0).setIfInBounds 1 v1).setIfInBounds 2 v2).setIfInBounds 3 v3).setIfInBounds 4 v4).setIfInBounds 5 v5 = #[v0, v1, v2, v3, v4, v5] := by simp
    rw [e] at hy
    exact ⟨below_drewR hx, (heap_drew _ _).trans hy⟩
  have KP : Hid (∀ (v0 v1 v2 v3 v4 v5 : Value) (j : Nat), ((((((w2.setCell ⟨rb, 0, none⟩ v0).setCell ⟨rb, 1, none⟩ v1).setCell ⟨rb, 2, none⟩ v2).setCell ⟨rb, 3, none⟩ v3).setCell ⟨rb, 4, none⟩ v4).setCell ⟨rb, 5, none⟩ v5).drew.cell? ⟨nb, j, none⟩ = w2.cell? ⟨nb, j, none⟩) := by
    intro v0 v1 v2 v3 v4 v5 j
    refine World.cell?_of_block (w := w2) (a := ⟨nb, j, none⟩) ((heap_drew _ _).trans ?_)
    show ((((((w2.setCell ⟨rb, 0, none⟩ v0).setCell ⟨rb, 1, none⟩ v1).setCell ⟨rb, 2, none⟩ v2).setCell ⟨rb, 3, none⟩ v3).setCell ⟨rb, 4, none⟩ v4).setCell ⟨rb, 5, none⟩ v5).heap[nb]? = w2.heap[nb]?
    rw [set_other hne, set_other hne, set_other hne, set_other hne, set_other hne, set_other hne]
  clear hnb hrb HB1 HB2
  obtain ⟨a0, _⟩ := cell_of (j := 0) (u := .int .i64 c0) hk1 rfl
  obtain ⟨r0, f0⟩ := cell_of (j := 0) (u := .int .i64 0) hk2 rfl
  obtain ⟨a1, _⟩ := cell_of (j := 1) (u := .int .i64 c1) hk1 rfl
  obtain ⟨r1, f1⟩ := cell_of (j := 1) (u := .int .i64 0) hk2 rfl
  obtain ⟨a2, _⟩ := cell_of (j := 2) (u := .int .i64 c2) hk1 rfl
  obtain ⟨r2, f2⟩ := cell_of (j := 2) (u := .int .i64 0) hk2 rfl
  obtain ⟨a3, _⟩ := cell_of (j := 3) (u := .int .i64 c3) hk1 rfl
  obtain ⟨r3, f3⟩ := cell_of (j := 3) (u := .int .i64 0) hk2 rfl
  obtain ⟨a4, _⟩ := cell_of (j := 4) (u := .int .i64 c4) hk1 rfl
  obtain ⟨r4, f4⟩ := cell_of (j := 4) (u := .int .i64 0) hk2 rfl
  obtain ⟨a5, _⟩ := cell_of (j := 5) (u := .int .i64 c5) hk1 rfl
  obtain ⟨r5, f5⟩ := cell_of (j := 5) (u := .int .i64 0) hk2 rfl
  clear hk1 hk2
  have z0 : w2.drew.cell? ⟨nb, 0, none⟩ = some (.int .i64 c0) := a0
  have z1 : w2.drew.cell? ⟨nb, 1, none⟩ = some (.int .i64 c1) := a1
  have z2 : w2.drew.cell? ⟨nb, 2, none⟩ = some (.int .i64 c2) := a2
  have z3 : w2.drew.cell? ⟨nb, 3, none⟩ = some (.int .i64 c3) := a3
  have z4 : w2.drew.cell? ⟨nb, 4, none⟩ = some (.int .i64 c4) := a4
  have z5 : w2.drew.cell? ⟨nb, 5, none⟩ = some (.int .i64 c5) := a5
  go_region_held3 (fun w' => w'.cell? ⟨nb, 0, none⟩ = some (.int .i64 c0) ∧ w'.cell? ⟨nb, 1, none⟩ = some (.int .i64 c1) ∧ w'.cell? ⟨nb, 2, none⟩ = some (.int .i64 c2) ∧ w'.cell? ⟨nb, 3, none⟩ = some (.int .i64 c3) ∧ w'.cell? ⟨nb, 4, none⟩ = some (.int .i64 c4) ∧ w'.cell? ⟨nb, 5, none⟩ = some (.int .i64 c5)) (first | with_reducible exact ⟨z0, z1, z2, z3, z4, z5⟩ | exact ⟨(KP.out _ _ _ _ _ _ 0).trans a0, (KP.out _ _ _ _ _ _ 1).trans a1, (KP.out _ _ _ _ _ _ 2).trans a2, (KP.out _ _ _ _ _ _ 3).trans a3, (KP.out _ _ _ _ _ _ 4).trans a4, (KP.out _ _ _ _ _ _ 5).trans a5⟩)
    (first
      | (go_at_call_of 7 (Value.int .i64 c0); refine (C0.out _).mono ?_; rintro e w' ⟨rfl, rfl⟩)
      | (go_at_call_of 7 (Value.int .i64 c1); refine (C1.out _).mono ?_; rintro e w' ⟨rfl, rfl⟩)
      | (go_at_call_of 7 (Value.int .i64 c2); refine (C2.out _).mono ?_; rintro e w' ⟨rfl, rfl⟩)
      | (go_at_call_of 7 (Value.int .i64 c3); refine (C3.out _).mono ?_; rintro e w' ⟨rfl, rfl⟩)
      | (go_at_call_of 7 (Value.int .i64 c4); refine (C4.out _).mono ?_; rintro e w' ⟨rfl, rfl⟩)
      | (go_at_call_of 7 (Value.int .i64 c5); refine (C5.out _).mono ?_; rintro e w' ⟨rfl, rfl⟩))
  have e0 : IntKind.i64.wrap (1 + p0) = 1 + p0 := by rw [IntKind.wrap_i64]; omega
  have e1 : IntKind.i64.wrap (2 + p1) = 2 + p1 := by rw [IntKind.wrap_i64]; omega
  have e3 : IntKind.i64.wrap (1 + p3) = 1 + p3 := by rw [IntKind.wrap_i64]; omega
  have e4 : IntKind.i64.wrap (1 + p4) = 1 + p4 := by rw [IntKind.wrap_i64]; omega
  have e5 : IntKind.i64.wrap (1 + p5) = 1 + p5 := by rw [IntKind.wrap_i64]; omega
  rw [e0, e1, e3, e4, e5]
  obtain ⟨hB, hblk⟩ := FIN.out (.int .i64 (1 + p0)) (.int .i64 (2 + p1)) (.int .i64 p2) (.int .i64 (1 + p3)) (.int .i64 (1 + p4)) (.int .i64 (1 + p5))
  clear FIN KP C0 C1 C2 C3 C4 C5 e0 e1 e3 e4 e5
  generalize ((((((w2.setCell ⟨rb, 0, none⟩ (.int .i64 (1 + p0))).setCell ⟨rb, 1, none⟩ (.int .i64 (2 + p1))).setCell ⟨rb, 2, none⟩ (.int .i64 p2)).setCell ⟨rb, 3, none⟩ (.int .i64 (1 + p3))).setCell ⟨rb, 4, none⟩ (.int .i64 (1 + p4))).setCell ⟨rb, 5, none⟩ (.int .i64 (1 + p5))).drew = W5 at *
  have hld := run_loadVar_row (P := Tryz.prog) _ rb 32 32 _ _ _ hblk Tryz.underlying32 rfl Tryz.sizeCf
  have HLD := hide hld
  have HBB := hide hB
  clear hld hB hblk
  go_wp2
  (try simp only [Exit.inBlock, Exit.then])
  refine bodyPost_ret (v := .agg #[.int .i64 (1 + p0), .int .i64 (2 + p1), .int .i64 p2, .int .i64 (1 + p3), .int .i64 (1 + p4), .int .i64 (1 + p5)]) ?_ rfl ⟨rfl, HBB.out⟩
  have hld := HLD.out
  rw [results_cellG rfl]
  simp [asAddr, Result.andThen, hld]
end Go.Proofs.YtkncboinfcnklabGreatDoor.Kp

namespace Go.Proofs.YtkncboinfcnklabGreatDoor.Kp
open Go.RowKit Go.Deep Go.Shelf Go.Proofs.YtkncboinfcnklabGreatDoor.Mth

/-- A follower: its number, its word, the place of the first entry that it must tell next; is it there? -/
structure Fo where
  num : Nat
  word : ByteArray
  next : Nat
  there : Bool
def fo0 : Fo := ⟨0, ⟨#[]⟩, 0, false⟩
def foC (f : Fo) : List Value := [.int .i64 (f.num : Int), .string f.word, .int .i64 (f.next : Int), .bool f.there]
/-- A shelf's cells. -/
def shC (lb hb : Nat) (L : Lg) (av tv : Value) : Array Value := #[ptrV lb, ptrV hb, .int .i64 (L.memory : Int), .int .i64 (L.fan : Int), .int .i64 (L.back : Int), .int .i64 (L.wks.length : Int), .int .i64 (L.keep : Int), .int .i64 (L.batch : Int), av, .int .i64 (L.clock : Int), .slice none 0 0, .int .i64 0, tv, .bool true]
/-- A shelf in memory, but for its log. -/
structure ShM (w : World) (ρ : Nat → Nat) (B sb : Nat) (C : Array Value) (all : List Ent) (tls : List Fo) (av tv : Value) : Prop where
  blk : w.heap[sb]? = some (Obj.cells C 37 (0, 0))
  row : w.ownsRow B 49 3 av all.length (all.flatMap eC)
  trow : w.ownsRow B 60 4 tv tls.length (tls.flatMap foC)
  rs : ρ sb = 0
  ra : ∀ g, some g = av.ownBlock → ρ g = 0
  rt : ∀ g, some g = tv.ownBlock → ρ g = 0
  ge : B ≤ sb
theorem ShM.keep {w w' : World} {ρ ρ' : Nat → Nat} {B sb : Nat} {C : Array Value} {all : List Ent} {tls : List Fo} {av tv : Value} (h : ShM w ρ B sb C all tls av tv) (hs : LStp w w' ρ ρ') : ShM w' ρ' B sb C all tls av tv := by
  have hsb := (Array.getElem?_eq_some_iff.1 h.blk).1
  exact ⟨(hs.tch.block sb hsb (fun q => q.1 h.rs)).trans h.blk, own_same h.row (fun g hg => hs.tch.block g (own_block h.row hg).2.1 (fun q => q.1 (h.ra g hg))), own_same h.trow (fun g hg => hs.tch.block g (own_block h.trow hg).2.1 (fun q => q.1 (h.rt g hg))), hs.old sb hsb h.rs, fun g hg => hs.old g (own_block h.row hg).2.1 (h.ra g hg), fun g hg => hs.old g (own_block h.trow hg).2.1 (h.rt g hg), h.ge⟩
theorem ShM.below {w w' : World} {ρ : Nat → Nat} {B sb : Nat} {C : Array Value} {all : List Ent} {tls : List Fo} {av tv : Value} (h : ShM w ρ B sb C all tls av tv) (hb : Below w.heap.size w w') : ShM w' ρ B sb C all tls av tv :=
  h.keep ⟨tch_below hb, fun _ _ q => q⟩
/-- The log does not notice what is not its own. -/
theorem off {w w' : World} {ρ : Nat → Nat} {B N lb : Nat} {G : Gh} {L : Lg} (h : LogAt w ρ B N lb G L) {S : Nat → Prop} (ht : Tch S w w') (hS : ∀ k, k < w.heap.size → S k → ρ k = 0 ∧ ¬ isN w k) : LogAt w' ρ B N lb G L :=
  h.same (fun g hg => by
    have hlt : g < w.heap.size := by
      rcases hg with q | q
      · exact (h.x.lt g q).1
      · exact isN_lt q
    refine ht.block g hlt (fun s => ?_)
    obtain ⟨s1, s2⟩ := hS g hlt s
    rcases hg with q | q
    · exact q s1
    · exact s2 q) ht.size
theorem notN' {w : World} {k : Nat} {C : Array Value} {t : TypeId} {fr : Nat × Nat} (h : w.heap[k]? = some (Obj.cells C t fr)) (ht : t ≠ 172) : ¬ isN w k := fun ⟨_C', _fr', q⟩ => ht (cells_ty h q)
/-- A field of the shelf is set. -/
theorem ShM.set {w : World} {ρ : Nat → Nat} {B N lb sb : Nat} {G : Gh} {L : Lg} {C : Array Value} {all : List Ent} {tls : List Fo} {av tv : Value} (hl : LogAt w ρ B N lb G L) (h : ShM w ρ B sb C all tls av tv) (j : Nat) (v : Value) :
    LogAt (w.setCell ⟨sb, j, none⟩ v) ρ B N lb G L ∧ ShM (w.setCell ⟨sb, j, none⟩ v) ρ B sb (C.setIfInBounds j v) all tls av tv ∧ (B ≤ w.heap.size → Below B w (w.setCell ⟨sb, j, none⟩ v)) := by
  have hT : Tch (fun k => k = sb) w (w.setCell ⟨sb, j, none⟩ v) := ⟨rfl, rfl, rfl, by simp, fun k _ hne => set_other hne⟩
  refine ⟨off hl hT (fun k _ e => by rw [e]; exact ⟨h.rs, notN' h.blk (by decide)⟩), ⟨setCell_blk h.blk, own_set_other h.row h.blk (by decide), own_set_other h.trow h.blk (by decide), h.rs, h.ra, h.rt, h.ge⟩, fun hB => below_tch (Below.refl B w) hT (fun k e => by rw [e]; exact h.ge) hB⟩
/-- An entry more. -/
theorem ShM.more {w W5 : World} {ρ : Nat → Nat} {B N lb sb : Nat} {G : Gh} {L : Lg} {C : Array Value} {all : List Ent} {tls : List Fo} {av tv v5 : Value} {e : Ent} {o : Obj} (hl : LogAt w ρ B N lb G L) (h : ShM w ρ B sb C all tls av tv) (hB : B ≤ w.heap.size)
    (o5 : W5.ownsRow B 49 3 v5 (all.length + 1) (all.flatMap eC ++ eC e)) (g6 : (w.alloc o).grownBy W5 av.ownBlock) (n5 : v5.ownBlock = av.ownBlock ∨ v5.ownBlock = some (w.alloc o).heap.size) :
    W5.heap[sb]? = some (Obj.cells C 37 (0, 0)) ∧ LogAt (W5.setCell ⟨sb, 8, none⟩ v5) ρ B N lb G L ∧ ShM (W5.setCell ⟨sb, 8, none⟩ v5) ρ B sb (C.setIfInBounds 8 v5) (all ++ [e]) tls v5 tv ∧ Below B w (W5.setCell ⟨sb, 8, none⟩ v5) := by
  have hsb := (Array.getElem?_eq_some_iff.1 h.blk).1
  have hsz5 : w.heap.size ≤ W5.heap.size := by have := g6.size; simp at this; omega
  have hfar : ∀ g, g < w.heap.size → some g ≠ av.ownBlock → W5.heap[g]? = w.heap[g]? := fun g hg hne => by
    rw [g6.block g (by simp; omega) hne, Mth.hAO w o (r := g) hg]
  have hsbv : some sb ≠ av.ownBlock := fun q => by
    obtain ⟨_, _, D, hD⟩ := own_block h.row q
    exact absurd (cells_ty h.blk hD) (by decide)
  have hblk5 := (hfar sb hsb hsbv).trans h.blk
  have hT : Tch (fun k => some k = av.ownBlock) w W5 := ⟨g6.os, g6.tape, g6.output, hsz5, fun k hk hne => hfar k hk hne⟩
  have hl5 : LogAt W5 ρ B N lb G L := off hl hT (fun k _ q => ⟨h.ra k q, by
    obtain ⟨_, _, D, hD⟩ := own_block h.row q
    exact notN' hD (by decide)⟩)
  have hm5 : ShM W5 ρ B sb C (all ++ [e]) tls v5 tv := by
    refine ⟨hblk5, by rw [List.length_append, List.flatMap_append]; simpa using o5, own_same h.trow (fun g hg => hfar g (own_block h.trow hg).2.1 (fun q => ?_)), h.rs, fun g hg => ?_, h.rt, h.ge⟩
    · obtain ⟨_, _, D, hD⟩ := own_block h.trow hg
      obtain ⟨_, _, D', hD'⟩ := own_block h.row q
      exact absurd (cells_ty hD hD') (by decide)
    · rcases n5 with q | q
      · rw [q] at hg; exact h.ra g hg
      · rw [q] at hg
        injection hg with hg
        exact hl.free (by rw [hg]; simp)
  obtain ⟨a1, a2, a3⟩ := ShM.set hl5 hm5 8 v5
  have hB5 : Below B w W5 := below_tch (Below.refl B w) hT (fun k q => (own_block h.row q).1) hB
  exact ⟨hblk5, a1, a2, hB5.trans (a3 (Nat.le_trans hB hsz5))⟩

/-- The followers, and the tails of the log. -/
structure TlR (L : Lg) (tls : List Fo) (n : Nat) : Prop where
  num : ∀ i, i < tls.length → (tls.getD i fo0).num = i ∧ (tls.getD i fo0).word ∈ wds ∧ (tls.getD i fo0).next ≤ n
  at_ : ∀ i, i < tls.length → L.tls (i : Int) = if (tls.getD i fo0).there then some ((tls.getD i fo0).word, (tls.getD i fo0).next) else none
  out : ∀ x : Int, (x < 0 ∨ (tls.length : Int) ≤ x) → L.tls x = none
  subs : L.subs = tls.length
  few : L.tn ≤ 4
theorem TlR.mono {L L' : Lg} {tls : List Fo} {n n' : Nat} (h : TlR L tls n) (hn : n ≤ n') (h1 : L'.tls = L.tls) (h2 : L'.subs = L.subs) (h3 : L'.tn = L.tn) : TlR L' tls n' :=
  ⟨fun i hi => ⟨(h.num i hi).1, (h.num i hi).2.1, Nat.le_trans (h.num i hi).2.2 hn⟩, fun i hi => by rw [h1]; exact h.at_ i hi, fun x hx => by rw [h1]; exact h.out x hx, by rw [h2]; exact h.subs, by rw [h3]; exact h.few⟩
/-- A shelf. -/
structure Sh (w : World) (ρ : Nat → Nat) (B N M lb sb hb : Nat) (G : Gh) (L : Lg) (all : List Ent) (tls : List Fo) (av tv : Value) : Prop where
  log : LogAt w ρ B N lb G L
  mem : ShM w ρ B sb (shC lb hb L av tv) all tls av tv
  inv : Inv L all
  left : G.left = -1
  bud : G.dt.size ≤ 64 * M ∧ all.length ≤ M ∧ tls.length ≤ M
  tl : TlR L tls all.length
/-- What a call on a shelf leaves. -/
structure ShX (w w' : World) (B N M lb sb hb : Nat) (L : Lg) (all : List Ent) (tls : List Fo) : Prop where
  ex : ∃ ρ G av tv, Sh w' ρ B N M lb sb hb G L all tls av tv
  bel : Below B w w'
theorem Sh.below {w w' : World} {ρ : Nat → Nat} {B N M lb sb hb : Nat} {G : Gh} {L : Lg} {all : List Ent} {tls : List Fo} {av tv : Value} (h : Sh w ρ B N M lb sb hb G L all tls av tv) (hb' : Below w.heap.size w w') : Sh w' ρ B N M lb sb hb G L all tls av tv :=
  ⟨h.log.below hb', h.mem.below hb', h.inv, h.left, h.bud, h.tl⟩
theorem shC_app (lb hb : Nat) (L : Lg) (s : ByteArray) (av tv : Value) : shC lb hb (L.app s) av tv = shC lb hb L av tv := by
  unfold shC Lg.app Lg.more
  by_cases hf : L.memory ≤ L.mem.length
  · rw [if_pos hf]
    simp [Lg.roll, layTo_len]
  · rw [if_neg hf]
end Go.Proofs.YtkncboinfcnklabGreatDoor.Kp

namespace Go.Proofs.YtkncboinfcnklabGreatDoor.Kp
open Go.RowKit Go.Deep Go.Shelf Go.Proofs.YtkncboinfcnklabGreatDoor.Mth

theorem shC_all (lb hb : Nat) (L : Lg) (av av' tv : Value) : (shC lb hb L av tv).setIfInBounds 8 av' = shC lb hb L av' tv := by simp [shC]
theorem shC_tls (lb hb : Nat) (L : Lg) (av tv tv' : Value) : (shC lb hb L av tv).setIfInBounds 12 tv' = shC lb hb L av tv' := by simp [shC]
theorem shC_clock (lb hb : Nat) (L : Lg) (av tv : Value) (n : Nat) : (shC lb hb L av tv).setIfInBounds 9 (.int .i64 ((L.clock + n : Nat) : Int)) = shC lb hb { L with clock := L.clock + n } av tv := by simp [shC]
theorem Sh.cell {w : World} {ρ : Nat → Nat} {B N M lb sb hb : Nat} {G : Gh} {L : Lg} {all : List Ent} {tls : List Fo} {av tv : Value} (h : Sh w ρ B N M lb sb hb G L all tls av tv) {j : Nat} {u : Value} (hj : (shC lb hb L av tv)[j]? = some u) : w.cell? ⟨sb, j, none⟩ = some u ∧ w.frozen? ⟨sb, j, none⟩ = false := cell_of h.mem.blk hj
theorem belowB {B : Nat} {w w' : World} (h : Below w.heap.size w w') (hB : B ≤ w.heap.size) : Below B w w' := ⟨h.os, h.tape, h.output, h.size, fun k hk => h.block k (by omega)⟩

set_option maxRecDepth 100000 in
set_option maxHeartbeats 2000000 in
theorem lays_ok {w : World} {ρ : Nat → Nat} {B N M lb sb hb : Nat} {G : Gh} {L : Lg} {all : List Ent} {tls : List Fo} {av tv : Value} (h : Sh w ρ B N M lb sb hb G L all tls av tv) (hB : B ≤ w.heap.size) (ht : TabB B w) (s : ByteArray) (hs : s.size ≤ 60) (hn : ¬ (L.memory ≤ L.mem.length ∧ L.fan + L.back ≤ (L.lev 0).length)) (hM : M ≤ 400000) :
    Calls Tryz.prog 19 #[ptrV sb, .string s] w fun e w' => e = .returned (.tuple #[]) ∧ ShX w w' B N (M + 1) lb sb hb (L.app s) (all ++ [⟨(all.length : Int), (L.clock : Int), s⟩]) tls := by
  obtain ⟨i0, hi0, hz0, hz1, hz2⟩ := info_parts Tryz.info49
  have hcf := h.inv.cfg
  have hbd := h.bud
  have hml := h.inv.ml
  have hcnt := h.inv.cnt
  have CA0 := append_ok h.log hB ht s (by rw [h.left]; omega) (by rw [h.left]; omega) (by rw [h.left]; omega) (by rw [h.left]; omega) hs hn hcf.2.1.2 hcf.2.2.1 (fun i hi => by have := h.inv.lev i hi; omega) (by omega) (by omega) (by omega)
  have HS2 : Hid (∀ w2, Apd w w2 ρ B N lb G (L.app s) (G.dt ++ recB 0 s) (decL (decL G.left)) → ∃ ρ2 G2, LogAt w2 ρ2 B N lb G2 (L.app s) ∧ ShM w2 ρ2 B sb (shC lb hb L av tv) all tls av tv ∧ Below B w w2 ∧ G2.left = -1 ∧ G2.dt.size ≤ 64 * (M + 1)) := by
    intro w2 ha
    obtain ⟨⟨ρ2, G2, a1, a2, a3, a4, a5⟩⟩ := ha
    refine ⟨ρ2, G2, a1, h.mem.keep a2, below_lstp (Below.refl B w) a2 h.log.x.lt hB, ?_, ?_⟩
    · rw [a5, h.left]; decide
    · rw [a4, ByteArray.size_append, recB_size]; omega
  have HI := hide (h.inv.app hs)
  have HTL : Hid (TlR (L.app s) tls (all.length + 1)) := h.tl.mono (by omega) (by unfold Lg.app Lg.more; split <;> rfl) (by unfold Lg.app Lg.more; split <;> rfl) (by unfold Lg.app Lg.more; split <;> rfl)
  rw [hcnt] at CA0
  have CA := hide CA0
  obtain ⟨c0, _⟩ := h.cell (j := 0) (u := ptrV lb) rfl
  obtain ⟨va, vc, hva, hvc, hvm⟩ := own_slice h.mem.row
  subst hva
  unfold maxLen at hvm
  have hclk := h.inv.clk
  have h60 : ¬ (60 : Int) < (s.size : Int) := by omega
  clear h CA0 hcf hml hcnt hn ht
  have HSC : Hid (∀ av tv, shC lb hb (L.app s) av tv = shC lb hb L av tv) := fun av tv => shC_app lb hb L s av tv
  generalize hLA : L.app s = LA at *
  have HLA := hide hLA
  clear hLA
  generalize hal : all.length = n at *
  have HAL := hide hal
  clear hal
  go_enter Tryz.func19, Tryz.ntmps19
  go_upto_region 2 with (first | (go_at_call 40; refine CA.out.mono ?_; rintro e w2 ⟨rfl, ha⟩; obtain ⟨ρ2, G2, hl2, hm2, hB2, hlf2, hdt2⟩ := HS2.out w2 ha; clear ha))
  have hBw2 : B ≤ w2.heap.size := Nat.le_trans hB hB2.size
  obtain ⟨c8, f8⟩ := cell_of (j := 8) (u := .slice va n vc) hm2.blk rfl
  obtain ⟨c9, _⟩ := cell_of (j := 9) (u := .int .i64 (L.clock : Int)) hm2.blk rfl
  have c8' := cellA (o := Obj.cells #[.int .i64 (n : Int), .int .i64 (L.clock : Int), .string s] 49) c8
  have hrow2 := hm2.row
  rw [HAL.out] at hrow2
  have HROW := hide hrow2
  have HL2 := hide hl2
  have HM2 := hide hm2
  have HB2 := hide hB2
  clear hl2 hm2 hB2 hrow2 HS2 CA
  go_upto_region 3 with fail
  go_region_law (refine step_own_at _ rfl _ _ 33 rfl B 49 i0 (.agg #[.int .i64 0, .int .i64 0, .string ByteArray.empty]) 3 32 Tryz.underlying33 hi0 hz0 hz1 hz2 rfl (by decide) _ _ _ rfl (by exact HROW.out.alloc _) ⟨w2.heap.size, 0, none⟩ 1 1 [.int .i64 (n : Int), .int .i64 (L.clock : Int), .string s] rfl rfl (by exact cell_three_new w2.drew _ _ _ _) (by intro u hu; simp at hu; rcases hu with rfl | rfl | rfl <;> rfl) (by unfold maxLen; omega) (by omega) (by simp; omega) ?_; intro v5 W5 o5 g5 n5; obtain ⟨a5, c5, rfl, hc5, hm5⟩ := own_slice o5; have g6 : (w2.alloc (Obj.cells #[.int .i64 (n : Int), .int .i64 (L.clock : Int), .string s] 49)).grownBy W5 (Value.slice va n vc).ownBlock := ⟨g5.os, g5.tape, g5.output, g5.size, g5.block⟩; have KM := hide (ShM.more (e := ⟨(n : Int), (L.clock : Int), s⟩) HL2.out HM2.out hBw2 (by rw [HAL.out]; exact o5) g6 n5); obtain ⟨fb, ff⟩ := cell_of (j := 8) (u := .slice va n vc) KM.out.1 rfl; clear o5 g5 g6 n5)
  all_goals (
    obtain ⟨_, k2, k3, k4⟩ := KM.out
    rw [shC_all] at k3
    obtain ⟨d8, _⟩ := cell_of (j := 8) (u := .slice a5 (n + 1) c5) k3.blk rfl
    have FIN : Hid (ShX w (W5.setCell ⟨sb, 8, none⟩ (.slice a5 (n + 1) c5)) B N (M + 1) lb sb hb LA (all ++ [⟨(n : Int), (L.clock : Int), s⟩]) tls) := ⟨⟨ρ2, G2, _, tv, k2, by rw [HSC.out]; exact k3, HI.out, hlf2, ⟨hdt2, by rw [List.length_append, HAL.out]; simp; omega, by omega⟩, by rw [List.length_append, HAL.out]; exact HTL.out⟩, HB2.out.trans k4⟩
    clear KM k2 k3 k4 c8 c8' c9 f8 fb ff
    generalize W5.setCell ⟨sb, 8, none⟩ (.slice a5 (n + 1) c5) = W6 at *
    have hnn : ((n + 1 : Nat) : Int) - 1 = (n : Int) := by omega
    go_wp2_with fail
    go_end0
    exact ⟨rfl, FIN.out⟩)
end Go.Proofs.YtkncboinfcnklabGreatDoor.Kp

namespace Go.Proofs.YtkncboinfcnklabGreatDoor
open Go.RowKit Go.Deep Go.Shelf Go.Proofs.YtkncboinfcnklabGreatDoor.Mth

set_option maxRecDepth 100000 in
set_option maxHeartbeats 4000000 in
/-- A text of the past. -/
theorem layJ_any {w : World} {B pb : Nat} {c : Nat} {v : Value} {es : List Ent} (hb : w.heap[pb]? = some (Obj.cells #[.int .i64 (c : Int), v] 135 (0, 0))) (h : w.ownsRow B 49 3 v es.length (es.flatMap eC)) (hB : B ≤ w.heap.size) (s : ByteArray) (hs : s.size ≤ 1048576) (hn : es.length ≤ 1000000) :
    Calls Tryz.prog 80 #[ptrV pb, .string s] w fun e w' => e = .returned (.tuple #[]) ∧ ∃ v', w'.heap[pb]? = some (Obj.cells #[.int .i64 (c : Int), v'] 135 (0, 0)) ∧ w'.ownsRow B 49 3 v' (es ++ [(⟨(es.length : Int), (c : Int), s⟩ : Ent)]).length ((es ++ [(⟨(es.length : Int), (c : Int), s⟩ : Ent)]).flatMap eC) ∧ Tch (fun k => k = pb ∨ some k = v.ownBlock) w w' := by
  obtain ⟨i0, hi0, hz0, hz1, hz2⟩ := info_parts Tryz.info49
  have hlt := (Array.getElem?_eq_some_iff.1 hb).1
  obtain ⟨va, vc, rfl, hvc, hvm⟩ := own_slice h
  have hne : some pb ≠ (Value.slice va es.length vc).ownBlock := fun q => by
    obtain ⟨_, _, D, hD⟩ := own_block h q
    exact absurd (cells_ty hD hb) (by decide)
  have CE : Hid (∀ W, Calls Tryz.prog 91 #[.int .i64 (es.length : Int), .int .i64 (c : Int), .string s] W fun e w' => e = .returned (.agg #[.int .i64 (es.length : Int), .int .i64 (c : Int), .string s]) ∧ Below W.heap.size W w') := fun W => jEntry_any _ _ s W hs
  have F : Hid (∀ W, Below w.heap.size w W → W.cell? ⟨pb, 0, none⟩ = some (.int .i64 (c : Int)) ∧ W.cell? ⟨pb, 1, none⟩ = some (.slice va es.length vc) ∧ W.frozen? ⟨pb, 1, none⟩ = false ∧ W.ownsRow B 49 3 (.slice va es.length vc) es.length (es.flatMap eC) ∧ B ≤ W.heap.size ∧
      ∀ W5 v5, (W.alloc (Obj.cells #[.int .i64 (es.length : Int), .int .i64 (c : Int), .string s] 49)).grownBy W5 (Value.slice va es.length vc).ownBlock → W5.ownsRow B 49 3 v5 (es.length + 1) (es.flatMap eC ++ [.int .i64 (es.length : Int), .int .i64 (c : Int), .string s]) → W5.frozen? ⟨pb, 1, none⟩ = false ∧ (∃ u, W5.cell? ⟨pb, 1, none⟩ = some u) ∧ ∃ v', (W5.setCell ⟨pb, 1, none⟩ v5).heap[pb]? = some (Obj.cells #[.int .i64 (c : Int), v'] 135 (0, 0)) ∧ (W5.setCell ⟨pb, 1, none⟩ v5).ownsRow B 49 3 v' (es ++ [(⟨(es.length : Int), (c : Int), s⟩ : Ent)]).length ((es ++ [(⟨(es.length : Int), (c : Int), s⟩ : Ent)]).flatMap eC) ∧ Tch (fun k => k = pb ∨ some k = (Value.slice va es.length vc).ownBlock) w (W5.setCell ⟨pb, 1, none⟩ v5)) := fun W hW => by
    have e := (hW.block pb hlt).trans hb
    have hplt := (Array.getElem?_eq_some_iff.1 e).1
    obtain ⟨x0, _⟩ := cell_of (j := 0) (u := .int .i64 (c : Int)) e rfl
    obtain ⟨x1, y1⟩ := cell_of (j := 1) (u := .slice va es.length vc) e rfl
    refine ⟨x0, x1, y1, Rl.own_belowR h hW, Nat.le_trans hB hW.size, fun W5 v5 g5 o5 => ?_⟩
    have e5 := (g5.block pb (by simp; omega) hne).trans (old_blk _ e)
    have e6 := Rl.set_blk (j := 1) (v := v5) e5
    refine ⟨(cell_of (j := 1) (u := .slice va es.length vc) e5 rfl).2, ⟨_, (cell_of (j := 1) (u := .slice va es.length vc) e5 rfl).1⟩, v5, by rw [e6]; rfl, ?_, g5.os.trans hW.os, g5.tape.trans hW.tape, g5.output.trans hW.output, ?_, fun k hk hn => ?_⟩
    · rw [List.length_append, List.flatMap_append]
      exact own_set_other (by simpa [eC] using o5) e5 (by decide)
    · have h1 := g5.size
      have h2 := hW.size
      simp at h1 ⊢
      omega
    · have hk2 := Nat.lt_of_lt_of_le hk hW.size
      rw [set_other (fun q => hn (Or.inl q)), g5.block k (by simp; omega) (fun q => hn (Or.inr q))]
      have h3 : (W.alloc (Obj.cells #[.int .i64 (es.length : Int), .int .i64 (c : Int), .string s] 49)).heap[k]? = W.heap[k]? := (below_allocG W _).block k hk2
      rw [h3, hW.block k hk]
  obtain ⟨c0, c1, f1, _⟩ := F.out w (Below.refl _ _)
  unfold maxLen at hvm
  obtain ⟨A, hA⟩ : ∃ A, A = Value.slice va es.length vc := ⟨_, rfl⟩
  clear hb h hA A
  generalize hes : es ++ [(⟨(es.length : Int), (c : Int), s⟩ : Ent)] = es2 at *
  generalize hfl : es.flatMap eC = xs at *
  clear hes hfl
  generalize es.length = n at *
  go_enter Tryz.func80, Tryz.ntmps80
  go_upto_region 0 with fail
  go_region_law
    (first
      | (rw [if_pos (by simp [Region.wanted])]; go_simp; go_at_call 91; refine (CE.out _).mono ?_; rintro e w5 ⟨rfl, hb5⟩; have hb5' : Below w.heap.size w w5 := below_drew1 hb5; obtain ⟨d0, d1, g1, o1, hB5, hrest⟩ := F.out w5 hb5'; have d1a := cellA (o := Obj.cells #[.int .i64 (n : Int), .int .i64 (c : Int), .string s] 49) d1; have HO1 := hide o1; have HREST := hide hrest; clear hb5 hb5' o1 hrest)
      | (refine step_own_at _ rfl _ _ 33 rfl B 49 i0 (.agg #[.int .i64 0, .int .i64 0, .string ByteArray.empty]) 3 32 Tryz.underlying33 hi0 hz0 hz1 hz2 rfl (by decide) _ _ _ rfl (by exact HO1.out.alloc _) ⟨w5.heap.size, 0, none⟩ 1 1 [.int .i64 (n : Int), .int .i64 (c : Int), .string s] rfl rfl (by exact cell_three_new w5 _ _ _ _) (by intro u hu; simp at hu; rcases hu with rfl | rfl | rfl <;> rfl) (by unfold maxLen; omega) (by omega) (by simp; omega) ?_; intro v6 W6 o6 g6 n6; obtain ⟨ff, ⟨uu, fb⟩, hfin⟩ := HREST.out W6 v6 ⟨g6.os, g6.tape, g6.output, g6.size, g6.block⟩ o6; have HFIN := hide hfin; obtain ⟨a6, c6, rfl, _, _⟩ := own_slice o6; clear o6 g6 n6 hfin))
  all_goals (
    go_end0
    exact ⟨rfl, HFIN.out⟩)
end Go.Proofs.YtkncboinfcnklabGreatDoor

namespace Go.Proofs.YtkncboinfcnklabGreatDoor
open Go.RowKit Go.Deep Go.Shelf Go.Proofs.YtkncboinfcnklabGreatDoor.Mth

theorem tb_append (s t : ByteArray) : tb (s ++ t) = tb s ++ tb t := by
  unfold tb
  rw [← List.map_append]
  congr 1
theorem tb_inj {s t : ByteArray} (h : tb s = tb t) : s = t := by
  rw [← of_tb s, ← of_tb t, h]
theorem tb_rec (k : Int) (k0 : 0 ≤ k) (k1 : k < 256) (s : ByteArray) (hs : s.size ≤ 255) : tb (recB k s) = k :: (s.size : Int) :: tb s := by
  unfold recB
  rw [tb_append, tb_of (by intro x hx; simp at hx; rcases hx with rfl | rfl <;> omega)]
  rfl

set_option maxRecDepth 100000 in
set_option maxHeartbeats 4000000 in
theorem first_yes (r s : ByteArray) (k : Int) (rest : List Int) (hr : tb r = k :: (s.size : Int) :: (tb s ++ rest)) (hs : s.size ≤ 255) (hrs : r.size ≤ 1099511627776) (w : World) :
    Calls Tryz.prog 82 #[.string r] w fun e w' => e = .returned (.tuple #[.int .u8 k, .string s, .bool true]) ∧ Below w.heap.size w w' := by
  have hl := tb_len r
  have hl2 := tb_len s
  rw [hr] at hl
  simp only [List.length_cons, List.length_append] at hl
  have h : ¬ (r.size : Int) < 2 := by omega
  have hn : ¬ (r.size : Int) < 2 + (s.size : Int) := by omega
  have x0 : ∀ W, (Instr.index 9 (.string r) (.int .i64 0)).run Tryz.prog W = .ok (.int .u8 k) W := fun W => by
    have := idx_at r 0 (by omega) W
    rw [hr] at this
    exact this
  have x1 : ∀ W, (Instr.index 9 (.string r) (.int .i64 1)).run Tryz.prog W = .ok (.int .u8 (s.size : Int)) W := fun W => by
    have := idx_at r 1 (by omega) W
    rw [hr] at this
    exact this
  have x2 : ∀ W, (Instr.slice 9 (.string r) (some (.int .i64 2)) (some (.int .i64 (2 + (s.size : Int)))) none).run Tryz.prog W = .ok (.string s) W := fun W => by
    have h1 := slice_at r 2 (2 + s.size) (by omega) (by omega) W
    have e1 : ((tb r).drop 2).take (2 + s.size - 2) = tb s := by
      rw [hr]
      show (tb s ++ rest).take (2 + s.size - 2) = tb s
      rw [show 2 + s.size - 2 = (tb s).length by omega]
      exact List.take_left
    rw [e1, of_tb] at h1
    rw [show (2 : Int) + (s.size : Int) = ((2 + s.size : Nat) : Int) by omega]
    exact h1
  have w1 : wrap64 (s.size : Int) = (s.size : Int) := by unfold wrap64; omega
  have w2 : wrap64 (2 + (s.size : Int)) = 2 + (s.size : Int) := by unfold wrap64; omega
  clear hr hl hl2
  go_enter Tryz.func82, Tryz.ntmps82
  go_upto_region 6 with fail
  refine wp_region_quiet_below (by kernel_rfl) (by kernel_rfl) ?_
  repeat (go_big_quiet_step (fail))
  refine wpQuiet_nil ?_
  intro _ hw'
  obtain ⟨⟨dq, osq⟩, hw''⟩ := hw'
  subst hw''
  have HB := hide (below_regrown w dq osq)
  generalize Sort.grow (redrawn w dq) osq = w3 at *
  go_wp2_with fail
  go_ret3
  exact ⟨rfl, HB.out⟩
end Go.Proofs.YtkncboinfcnklabGreatDoor

namespace Go.Proofs.YtkncboinfcnklabGreatDoor
open Go.RowKit Go.Deep Go.Shelf Go.Proofs.YtkncboinfcnklabGreatDoor.Mth

set_option maxRecDepth 100000 in
set_option maxHeartbeats 1000000 in
theorem first_short (r : ByteArray) (n : Nat) (h2 : 2 ≤ r.size) (hr : (tb r).getD 1 0 = (n : Int)) (hn : r.size < 2 + n) (h5 : n ≤ 255) (w : World) : Calls Tryz.prog 82 #[.string r] w fun e w' => e = .returned (.tuple #[.int .u8 0, .string ⟨#[]⟩, .bool false]) ∧ w' = w := by
  have h : ¬ (r.size : Int) < 2 := by omega
  have hn : (r.size : Int) < 2 + (n : Int) := by omega
  have x1 : ∀ W, (Instr.index 9 (.string r) (.int .i64 1)).run Tryz.prog W = .ok (.int .u8 (n : Int)) W := fun W => by
    have := idx_at r 1 (by omega) W
    rw [hr] at this
    exact this
  have w1 : wrap64 (n : Int) = (n : Int) := by unfold wrap64; omega
  have w2 : wrap64 (2 + (n : Int)) = 2 + (n : Int) := by unfold wrap64; omega
  clear hr
  go_enter Tryz.func82, Tryz.ntmps82
  go_wp2_with fail
  go_ret3
  exact ⟨rfl, rfl⟩

/-- What a record tells. -/
inductive Rc where
  | lay (s : ByteArray)
  | tick (n : Nat)
def Rc.k : Rc → Int
  | .lay _ => 0
  | .tick _ => 1
def Rc.s : Rc → ByteArray
  | .lay s => s
  | .tick n => itoaB (n : Int)
def Rc.ok : Rc → Prop
  | .lay s => s.size ≤ 60
  | .tick n => n ≤ 1000000
theorem Rc.size {r : Rc} (h : r.ok) : r.s.size ≤ 60 := by
  cases r with
  | lay s => exact h
  | tick n =>
    have := itoaB_size7 n h
    show (itoaB (n : Int)).size ≤ 60
    omega
def Rc.l (r : Rc) : List Int := r.k :: (r.s.size : Int) :: tb r.s
def rcL (l : List Rc) : List Int := l.flatMap Rc.l
def rcStep (p : Nat × List Ent) : Rc → Nat × List Ent
  | .lay s => (p.1, p.2 ++ [⟨(p.2.length : Int), (p.1 : Int), s⟩])
  | .tick n => (p.1 + n, p.2)
def rcP (l : List Rc) : Nat × List Ent := l.foldl rcStep (0, [])
theorem rcP_snoc (l : List Rc) (r : Rc) : rcP (l ++ [r]) = rcStep (rcP l) r := by
  unfold rcP
  rw [List.foldl_append]
  rfl
theorem rcL_snoc (l : List Rc) (r : Rc) : rcL (l ++ [r]) = rcL l ++ r.l := by
  unfold rcL
  rw [List.flatMap_append, List.flatMap_singleton]
theorem Rc.l_len (r : Rc) : r.l.length = 2 + r.s.size := by
  unfold Rc.l
  simp only [List.length_cons, tb_len]
  omega
/-- Only the first bytes of a record. -/
def Torn (t : List Int) : Prop := t.length < 2 ∨ ∃ n : Nat, t.getD 1 0 = (n : Int) ∧ n ≤ 255 ∧ 2 ≤ t.length ∧ t.length < 2 + n
theorem slice_lo (s : ByteArray) (i : Nat) (hi : i ≤ s.size) (w : World) : (Instr.slice 9 (.string s) (some (.int .i64 (i : Int))) none none).run Tryz.prog w = .ok (.string (strOfNums ((tb s).drop i))) w := by
  rw [run_slice_string_l (P := Tryz.prog) (w := w) (t := 9) (s := s) Tryz.underlying9 .i64 (i : Int) (by omega) (by omega)]
  congr 2
  apply bytes_ext
  rw [Int.toNat_natCast, ByteArray.data_extract, Array.toList_extract, List.extract_eq_take_drop]
  have e : strOfNums ((tb s).drop i) = ofL (s.data.toList.drop i) := by
    unfold strOfNums tb ofL
    rw [← List.map_drop, List.map_map]
    congr 2
    conv => rhs; rw [← List.map_id (s.data.toList.drop i)]
    apply List.map_congr_left
    intro u _
    simp
  rw [e]
  show _ = (s.data.toList.drop i).toArray.toList
  rw [List.toList_toArray, List.take_of_length_le]
  rw [List.length_drop, Array.length_toList]
  exact Nat.le_refl _
end Go.Proofs.YtkncboinfcnklabGreatDoor
