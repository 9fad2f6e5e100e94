import Derived.Test.YtkncboinfcnklaaGreatDoorKK
namespace Go.Proofs.YtkncboinfcnklaaGreatDoor.Kp
open Go.RowKit Go.Deep Go.Shelf Go.Proofs.YtkncboinfcnklaaGreatDoor.Mth

/-- What laying down does. -/
def LayR (L : Lg) (all : List Ent) (s : ByteArray) (L' : Lg) (all' : List Ent) : Prop := (L' = L ∧ all' = all ∧ (60 < s.size ∨ (L.memory ≤ L.mem.length ∧ L.fan + L.back ≤ (L.lev 0).length))) ∨ (L' = L.app s ∧ all' = all ++ [⟨(all.length : Int), (L.clock : Int), s⟩])
theorem lays_any {w : World} {ρ : Nat → Nat} {B N M lb sb hb : Nat} {G : Gh} {L : Lg} {all : List Ent} {tls : List Fo} {av tv : Value} (h : Sh w ρ B N M lb sb hb G L all tls av tv) (hB : B ≤ w.heap.size) (ht : TabB B w) (s : ByteArray) (hs : s.size ≤ 1048576) (hM : M ≤ 400000) :
    Calls Tryz.prog 82 #[ptrV sb, .string s] w fun e w' => e = .returned (.tuple #[]) ∧ ∃ L' all', LayR L all s L' all' ∧ ShX w w' B N (M + 1) lb sb hb L' all' tls := by
  by_cases h1 : 60 < s.size
  · refine (lays_long h hB s h1 hs).mono ?_
    rintro e w' ⟨rfl, hx⟩
    exact ⟨rfl, L, all, Or.inl ⟨rfl, rfl, Or.inl h1⟩, hx.mono (by omega)⟩
  · by_cases h2 : L.memory ≤ L.mem.length ∧ L.fan + L.back ≤ (L.lev 0).length
    · refine (lays_busy h hB s (by omega) h2.1 h2.2 hM).mono ?_
      rintro e w' ⟨rfl, hx⟩
      exact ⟨rfl, L, all, Or.inl ⟨rfl, rfl, Or.inr h2⟩, hx.mono (by omega)⟩
    · refine (lays_ok h hB ht s (by omega) h2 hM).mono ?_
      rintro e w' ⟨rfl, hx⟩
      exact ⟨rfl, _, _, Or.inr ⟨rfl, rfl⟩, hx⟩
theorem passes_any {w : World} {ρ : Nat → Nat} {B N M lb sb hb : Nat} {G : Gh} {L : Lg} {all : List Ent} {tls : List Fo} {av tv : Value} (h : Sh w ρ B N M lb sb hb G L all tls av tv) (hB : B ≤ w.heap.size) (ht : Tab10B B w) (n : Nat) (h1 : 1 ≤ n) (h2 : n ≤ 1000) (hM : M ≤ 400000) :
    Calls Tryz.prog 83 #[ptrV sb, .int .i64 (n : Int)] w fun e w' => e = .returned (.tuple #[]) ∧ ∃ L', ((L' = L ∧ canTick L.clock (n : Int) = false) ∨ L' = { L with clock := L.clock + n }) ∧ ShX w w' B N (M + 1) lb sb hb L' all tls := by
  cases hc : canTick L.clock (n : Int) with
  | false =>
    refine (passes_no h hB n h1 h2 hc).mono ?_
    rintro e w' ⟨rfl, hx⟩
    exact ⟨rfl, L, Or.inl ⟨rfl, rfl⟩, hx.mono (by omega)⟩
  | true =>
    refine (passes_ok h hB ht n h1 h2 hc hM).mono ?_
    rintro e w' ⟨rfl, hx⟩
    exact ⟨rfl, _, Or.inr rfl, hx⟩
abbrev mvV (k a b : Int) (s : ByteArray) : Value := .agg #[.int .i64 k, .int .i64 a, .int .i64 b, .string s]
abbrev mvO (k a b : Int) (s : ByteArray) : Obj := Obj.cells #[.int .i64 k, .int .i64 a, .int .i64 b, .string s] 118
/-- A shelf behind a move. -/
def Mvd (w w' : World) (B N M lb sb hb : Nat) : Prop := ∃ L' all' tls' N', N' ≤ N ∧ ShX w w' B N' M lb sb hb L' all' tls'

set_option maxRecDepth 100000 in
set_option maxHeartbeats 1000000 in
theorem mv_lays {w : World} {ρ : Nat → Nat} {B N M lb sb hb : Nat} {G : Gh} {L : Lg} {all : List Ent} {tls : List Fo} {av tv : Value} (h : Sh w ρ B N M lb sb hb G L all tls av tv) (hB : B ≤ w.heap.size) (ht : TabB B w) (k a b : Int) (s : ByteArray) (hk : I64 k) (hs : s.size ≤ 1048576) (hM : M ≤ 400000) (hp : pkI k 11 = 0 ∨ pkI k 11 = 1 ∨ pkI k 11 = 2) :
    Calls Tryz.prog 48 #[ptrV sb, mvV k a b s] w fun e w' => e = .returned (.tuple #[]) ∧ Mvd w w' B (N + 1) (M + 1) lb sb hb := by
  have hb1 := below_allocG w (mvO k a b s)
  have hk1 := new_blk w #[.int .i64 k, .int .i64 a, .int .i64 b, .string s] 118
  have CK := hide (pick_any k 11 (w.alloc (mvO k a b s)) hk.1 hk.2 (by omega) (by omega))
  have hB1 := belowB hb1 hB
  have CL0 := lays_any (h.below hb1) (Nat.le_trans hB hb1.size) (ht.next hB1) s hs hM
  have CL : Hid (Calls Tryz.prog 82 #[ptrV sb, .string s] (w.alloc (mvO k a b s)) fun e w' => e = .returned (.tuple #[]) ∧ Mvd w w' B (N + 1) (M + 1) lb sb hb) := by
    refine Calls.mono CL0 ?_
    rintro e w' ⟨rfl, L', all', _, hx⟩
    exact ⟨rfl, L', all', tls, N, by omega, hx.pre hB1⟩
  obtain ⟨w1, hw1⟩ : ∃ w1, w1 = w.alloc (mvO k a b s) := ⟨_, rfl⟩
  obtain ⟨nb, hnb⟩ : ∃ nb, nb = w.heap.size := ⟨_, rfl⟩
  rw [← hw1] at hk1 CK CL
  rw [← hnb] at hk1
  obtain ⟨c0, _⟩ := cell_of (j := 0) (u := .int .i64 k) hk1 rfl
  obtain ⟨c3, _⟩ := cell_of (j := 3) (u := .string s) hk1 rfl
  have HW1 := hide hw1
  have HNB := hide hnb
  clear h hb1 hk1 hB1 CL0 hw1 hnb
  generalize pkI k 11 = kk at *
  rcases hp with rfl | rfl | rfl
  all_goals (
    go_enter Tryz.func48, Tryz.ntmps48
    go_upto_region 1 with fail
    rw [← HW1.out, ← HNB.out]
    go_wp2_with (first
      | (go_at_call 47; refine CK.out.mono ?_; rintro e w' ⟨rfl, hw'⟩; rw [hw']; clear hw' w')
      | (go_at_call 82; refine CL.out.mono ?_; rintro e w2 ⟨rfl, hx⟩; have HX := hide hx; clear hx))
    go_end0
    exact ⟨rfl, HX.out⟩)

set_option maxRecDepth 100000 in
set_option maxHeartbeats 1000000 in
theorem mv_passes {w : World} {ρ : Nat → Nat} {B N M lb sb hb : Nat} {G : Gh} {L : Lg} {all : List Ent} {tls : List Fo} {av tv : Value} (h : Sh w ρ B N M lb sb hb G L all tls av tv) (hB : B ≤ w.heap.size) (ht : Tab10B B w) (k a b : Int) (s : ByteArray) (hk : I64 k) (hb' : I64 b) (hM : M ≤ 400000) (hp : pkI k 11 = 3) :
    Calls Tryz.prog 48 #[ptrV sb, mvV k a b s] w fun e w' => e = .returned (.tuple #[]) ∧ Mvd w w' B (N + 1) (M + 1) lb sb hb := by
  have hb1 := below_allocG w (mvO k a b s)
  have hk1 := new_blk w #[.int .i64 k, .int .i64 a, .int .i64 b, .string s] 118
  have CK := hide (pick_any k 11 (w.alloc (mvO k a b s)) hk.1 hk.2 (by omega) (by omega))
  have CKb := hide (pick_any b 1000 (w.alloc (mvO k a b s)) hb'.1 hb'.2 (by omega) (by omega))
  have hbd := pkI_bd b 1000 (by omega)
  have hB1 := belowB hb1 hB
  have hcast : ((1 + (pkI b 1000).toNat : Nat) : Int) = 1 + pkI b 1000 := by omega
  have CL0 := passes_any (h.below hb1) (Nat.le_trans hB hb1.size) (ht.next hB1) (1 + (pkI b 1000).toNat) (by omega) (by omega) hM
  rw [hcast] at CL0
  have CL : Hid (Calls Tryz.prog 83 #[ptrV sb, .int .i64 (1 + pkI b 1000)] (w.alloc (mvO k a b s)) fun e w' => e = .returned (.tuple #[]) ∧ Mvd w w' B (N + 1) (M + 1) lb sb hb) := by
    refine Calls.mono CL0 ?_
    rintro e w' ⟨rfl, L', _, hx⟩
    exact ⟨rfl, L', all, tls, N, by omega, hx.pre hB1⟩
  obtain ⟨w1, hw1⟩ : ∃ w1, w1 = w.alloc (mvO k a b s) := ⟨_, rfl⟩
  obtain ⟨nb, hnb⟩ : ∃ nb, nb = w.heap.size := ⟨_, rfl⟩
  rw [← hw1] at hk1 CK CKb CL
  rw [← hnb] at hk1
  rw [hp] at CK
  obtain ⟨c0, _⟩ := cell_of (j := 0) (u := .int .i64 k) hk1 rfl
  obtain ⟨c2, _⟩ := cell_of (j := 2) (u := .int .i64 b) hk1 rfl
  have HW1 := hide hw1
  have HNB := hide hnb
  clear h hb1 hk1 hB1 CL0 hw1 hnb hp hcast
  generalize pkI b 1000 = bb at *
  go_enter Tryz.func48, Tryz.ntmps48
  go_upto_region 1 with fail
  rw [← HW1.out, ← HNB.out]
  go_wp2_with (first
    | (go_at_call_of 47 (Value.int .i64 11); refine CK.out.mono ?_; rintro e w' ⟨rfl, hw'⟩; rw [hw']; clear hw' w')
    | (go_at_call_of 47 (Value.int .i64 1000); refine CKb.out.mono ?_; rintro e w' ⟨rfl, hw'⟩; rw [hw']; clear hw' w')
    | (go_at_call 83; refine CL.out.mono ?_; rintro e w2 ⟨rfl, hx⟩; have HX := hide hx; clear hx))
  go_end0
  exact ⟨rfl, HX.out⟩
end Go.Proofs.YtkncboinfcnklaaGreatDoor.Kp
