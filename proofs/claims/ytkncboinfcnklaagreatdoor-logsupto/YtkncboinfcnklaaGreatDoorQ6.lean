import Derived.Test.YtkncboinfcnklaaGreatDoorQ5
import Derived.Laws.Strings2
import Derived.Deep.QuietTactic
import Derived.BigQuiet
import Derived.Maps.AppendAt
import Derived.Deep.RegionHeld3
namespace Go.Proofs.YtkncboinfcnklaaGreatDoor
open Go.RowKit Go.Deep Go.Proofs.YtkncboinfcnklaaGreatDoor.Mth

theorem laid_any (v : Value) (l : List Ent) (w : World) (h : RdE w v l) (hS : Seg l) :
    Calls Tryz.prog 103 #[v] w fun e w' => e = .returned (.string (strOfNums (pk l))) ∧ Below w.heap.size w w' := by
  obtain ⟨a, c, rfl, _, _⟩ := rdE_len h
  exact laid_core a c l w h hS

set_option maxHeartbeats 400000 in
theorem refPack_yes (v : Value) (l : List Ent) (w : World) (h : RdE w v l) (hS : Seg l) :
    Calls Tryz.prog 63 #[v] w fun e w' => e = .returned (.tuple #[.string (strOfNums (pk l)), .int .i64 0]) ∧ Below w.heap.size w w' := by
  have CI := hide (refIsSeg_any v l w h)
  rw [segD_yes.2 hS] at CI
  have HR := hide h
  have HS := hide hS
  clear h hS
  go_enter Tryz.func63, Tryz.ntmps63
  go_wp2_with fail
  refine CI.out.mono ?_
  rintro e w1 ⟨rfl, hb1⟩
  have HB := hide hb1
  have CL := hide (laid_any v l w1 (HR.out.below hb1) HS.out)
  clear hb1 CI
  go_wp2_with fail
  refine CL.out.mono ?_
  rintro e w2 ⟨rfl, hb2⟩
  have HB2 := hide (HB.out.trans (hb2.mono HB.out.size))
  clear hb2 CL
  go_wp2
  go_ret2
  exact ⟨rfl, HB2.out⟩

theorem step_own {P : Program} (w : World) {ops : Array Oper} {o : Oper} {a : Act} {K : Act → World → Prop} {Q : Exit → Act → World → Prop} {E : Prop} (hgd : o.guard = none) (s x : Operand) (t : TypeId)
    (ho : o.op = .call { callee := .builtin .append, args := #[s, x], argTypes := #[t, t] })
    (base : Nat) (e : TypeId) (i : TypeInfo) (z : Value) (size bytes : Nat) (ht : P.underlying t = some (.slice e)) (hi : P.info? e = some i) (hz : i.zero = some z)
    (hsize : i.size = size) (hby : i.bytes = bytes) (hzs : z.cells.size = size) (hsz : 0 < size)
    (v : Value) (n : Nat) (xs : List Value) (hs : a.eval s = v) (hown : w.ownsRow base e size v n xs)
    (ad : Addr) (m c : Nat) (news : List Value) (hx : a.eval x = .slice (some ad) m c) (hl : news.length = m * size) (hnews : ∀ j u, news[j]? = some u → w.cell? (ad.add j) = some u) (h1 : ∀ u ∈ news, u.oneCell' = true)
    (h63 : n + m ≤ maxLen) (hbytes : (n + m) * bytes ≤ 140737488355328) (hbase : base ≤ w.heap.size)
    (h : ∀ v' w', w'.ownsRow base e size v' (n + m) (xs ++ news) → w.grownBy w' v.ownBlock → K (a.put o.dst v') w') :
    if Region.wanted o (yielded ops a.tmps) = true then Oper.wp P o a w K Q else E := by
  have hw : Region.wanted o (yielded ops a.tmps) = true := by simp [Region.wanted, hgd]
  rw [if_pos hw]
  exact wp_append_own w s x t ho base e i z size bytes ht hi hz hsize hby hzs hsz v n xs hs hown ad m c news hx hl hnews h1 h63 hbytes hbase fun v' w' h2 h3 _ => h v' w' h2 h3

end Go.Proofs.YtkncboinfcnklaaGreatDoor

namespace Go.Proofs.YtkncboinfcnklaaGreatDoor
open Go.RowKit Go.Deep Go.Proofs.YtkncboinfcnklaaGreatDoor.Mth

/-! ### what the caller writes -/
def mB (n i : Nat) : Int := if i % 2 = 0 then 1 + (n : Int) % 251 else 1 + (n : Int) / 251 % 251
def mT (n : Nat) : ByteArray := strOfNums [(n : Int) % 256, (n : Int) / 256 % 256, (n : Int) / 65536, 33]

set_option maxHeartbeats 400000 in
theorem markByte_any (n i : Nat) (w : World) (hn : n ≤ 4194304) (hi : i ≤ 4194304) : Calls Tryz.prog 137 #[.int .i64 n, .int .i64 i] w fun e w' => e = .returned (.int .u8 (mB n i)) ∧ w' = w := by
  by_cases h : i % 2 = 0
  · have h1 : (i : Int) % 2 = 0 := by omega
    have hm : mB n i = 1 + (n : Int) % 251 := by unfold mB; rw [if_pos h]
    rw [hm]
    go_enter Tryz.func137, Tryz.ntmps137
    go_wp2
    go_ret
    exact ⟨by first | rfl | (congr 2; omega), rfl⟩
  · have h1 : ¬ (i : Int) % 2 = 0 := by omega
    have h2 : ((i : Int) % 2 == 0) = false := by simpa using h1
    have hm : mB n i = 1 + (n : Int) / 251 % 251 := by unfold mB; rw [if_neg h]
    rw [hm]
    go_enter Tryz.func137, Tryz.ntmps137
    go_wp2
    go_ret
    exact ⟨by first | rfl | (congr 2; omega), rfl⟩

theorem conv_four (w : World) (a b c d : Int) : (convert 158 9 (.slice (some ⟨w.heap.size, 0, none⟩) 4 4)).run Tryz.prog (w.alloc (.cells #[.int .u8 a, .int .u8 b, .int .u8 c, .int .u8 d] 5)) = .ok (.string (strOfNums [a, b, c, d])) (w.alloc (.cells #[.int .u8 a, .int .u8 b, .int .u8 c, .int .u8 d] 5)) := by
  refine run_convert_bytes_arg (P := Tryz.prog) _ 158 5 Tryz.underlying158 Tryz.underlying5 w.heap.size 0 4 4 [a, b, c, d] rfl (fun i hi => ?_) 9 Tryz.underlying9
  match i, hi with
  | 0, _ => simp
  | 1, _ => simp
  | 2, _ => simp
  | 3, _ => simp

set_option maxRecDepth 100000 in
set_option maxHeartbeats 400000 in
theorem markText_any (n : Nat) (w : World) (hn : n ≤ 4194304) : Calls Tryz.prog 138 #[.int .i64 n] w fun e w' => e = .returned (.string (mT n)) ∧ Below w.heap.size w w' := by
  have hcv := conv_four w ((n : Int) % 256) ((n : Int) / 256 % 256) ((n : Int) / 65536) 33
  have hm : Hid (mT n = strOfNums [(n : Int) % 256, (n : Int) / 256 % 256, (n : Int) / 65536, 33]) := rfl
  rw [← hm.out] at hcv
  go_enter Tryz.func138, Tryz.ntmps138
  go_wp2
  go_ret
  exact ⟨rfl, below_alloc w _⟩

set_option maxHeartbeats 400000 in
theorem num_any (n : Int) (w : World) : Calls Tryz.prog 114 #[.int .i64 n] w fun e w' => e = .returned (.int .i64 n) ∧ w' = w := by
  go_enter Tryz.func114, Tryz.ntmps114
  go_wp2
  go_ret
  exact ⟨rfl, rfl⟩

/-- A slice from a block's beginning on, whose cells are those of f. -/
def RdM (w : World) (e : TypeId) (sz : Nat) (v : Value) (n : Nat) (f : Nat → Value) : Prop :=
  ∃ (a : Option Addr) (c : Nat), v = .slice a n c ∧ n ≤ c ∧ c ≤ maxLen ∧ (n = 0 ∨ ∃ g C, a = some ⟨g, 0, none⟩ ∧ w.heap[g]? = some (Obj.cells C e (0, 0)) ∧ ∀ j, j < n * sz → w.cell? ⟨g, j, none⟩ = some (f j))

theorem RdM.keep {w w' : World} {e : TypeId} {sz : Nat} {v : Value} {n : Nat} {f : Nat → Value} (h : RdM w e sz v n f) (hk : ∀ (g : Nat) C, w.heap[g]? = some (Obj.cells C e (0, 0)) → w'.heap[g]? = w.heap[g]?) : RdM w' e sz v n f := by
  obtain ⟨a, c, rfl, h1, h2, h⟩ := h
  refine ⟨a, c, rfl, h1, h2, h.imp id ?_⟩
  rintro ⟨g, C, rfl, hg, hc⟩
  have := hk g C hg
  exact ⟨g, C, rfl, this.trans hg, fun j hj => by rw [World.cell?_of_block (w := w) (a := ⟨g, j, none⟩) this]; exact hc j hj⟩
theorem RdM.below {w w' : World} {e : TypeId} {sz : Nat} {v : Value} {n : Nat} {f : Nat → Value} (h : RdM w e sz v n f) (hb : Below w.heap.size w w') : RdM w' e sz v n f :=
  h.keep fun g _ hg => hb.block g (Array.getElem?_eq_some_iff.1 hg).1
theorem rdM_len {w : World} {e : TypeId} {sz : Nat} {v : Value} {n : Nat} {f : Nat → Value} (h : RdM w e sz v n f) : ∃ a c, v = .slice a n c ∧ n ≤ c ∧ c ≤ maxLen := by
  obtain ⟨a, c, rfl, h1, h2, _⟩ := h
  exact ⟨a, c, rfl, h1, h2⟩
theorem rdM_at {w : World} {e : TypeId} {sz : Nat} {a : Option Addr} {n c : Nat} {f : Nat → Value} (h : RdM w e sz (.slice a n c) n f) (hn : 0 < n) : ∃ g, a = some ⟨g, 0, none⟩ ∧ g < w.heap.size ∧ ∀ j, j < n * sz → w.cell? ⟨g, j, none⟩ = some (f j) := by
  obtain ⟨a', c', e', _, _, h⟩ := h
  injection e' with e1 e2 e3
  rcases h with h | ⟨g, C, e4, hg, hc⟩
  · omega
  · exact ⟨g, e1.trans e4, (Array.getElem?_eq_some_iff.1 hg).1, hc⟩
theorem rdM_own {w : World} {B : Nat} {e : TypeId} {sz : Nat} {v : Value} {n : Nat} {f : Nat → Value} (h : w.ownsRow B e sz v n ((List.range (n * sz)).map f)) : RdM w e sz v n f := by
  have hc := fun g hg => h.cells (g := g) hg
  rcases h.2 with ⟨rfl, rfl⟩ | ⟨g, cap, cur, rfl, _, hg, h1, h2, _⟩
  · exact ⟨none, 0, rfl, Nat.le_refl _, by unfold maxLen; omega, Or.inl rfl⟩
  · refine ⟨_, cap, rfl, h1, h2, Or.inr ⟨g, cur, rfl, hg, fun j hj => ?_⟩⟩
    have := hc g rfl j (f j) (by simp [hj])
    rwa [show (⟨g, 0, none⟩ : Addr).add j = ⟨g, j, none⟩ from by unfold Addr.add; split <;> simp_all] at this

/-- The marks of the n-th list of each kind, cell by cell. -/
def fB (n : Nat) (j : Nat) : Value := .int .u8 (mB n j)
def fT (n : Nat) (_ : Nat) : Value := .string (mT n)
def fE (n : Nat) (j : Nat) : Value := if j % 3 = 0 then .int .i64 (-1000 - (n : Int)) else if j % 3 = 1 then .int .i64 0 else .string ⟨#[]⟩

set_option maxRecDepth 100000 in
set_option maxHeartbeats 1000000 in
theorem areBytes_any {v : Value} {len n : Nat} {w : World} (h : RdM w 5 1 v len (fB n)) (hn : n ≤ 4194304) (hl : len ≤ 4194304) :
    Calls Tryz.prog 70 #[v, .int .i64 n] w fun e w' => e = .returned (.bool true) ∧ Below w.heap.size w w' := by
  obtain ⟨a, c, rfl, hc, hm⟩ := rdM_len h
  unfold maxLen at hm
  have HR := hide h
  clear h
  go_enter Tryz.func70, Tryz.ntmps70
  go_wp2_with fail
  go_loopw [5] (fun i wr => ∃ k : Nat, k ≤ len ∧ i = .int .i64 k ∧ Below w.heap.size w wr) (fun i _ => len - (intOf i).toNat)
  case atStart => exact ⟨0, Nat.zero_le _, rfl, Below.refl _ _⟩
  case round =>
    obtain ⟨k, hk, rfl, hb⟩ := hrel
    by_cases hlt : k < len
    · obtain ⟨g, rfl, _, hcl⟩ := rdM_at (HR.out.below hb) (by omega)
      have d1 := cell_regrown (hcl k (by omega))
      unfold fB at d1
      have CM := hide (fun d os => Calls.regrown_of (w := wr) (d := d) (os := os) ((markByte_any n k (Sort.grow (redrawn wr d) os) (by omega) (by omega)).mono fun e w' q => ⟨q.1, by rw [q.2]; exact Below.refl _ _⟩))
      generalize mB n k = x at *
      have HB := hide hb
      clear hb hcl
      go_wp2
      refine wp_region_quiet_below (by kernel_rfl) (by kernel_rfl) ?_
      repeat (go_big_quiet_step (first | (go_at_call 137; exact CM.out _ _)))
      refine wpQuiet_nil ?_
      intro _ hw'
      obtain ⟨⟨dq, osq⟩, hw''⟩ := hw'
      subst hw''
      have HB2 := hide (HB.out.trans ((below_regrown wr dq osq).mono HB.out.size))
      clear d1 CM
      generalize Sort.grow (redrawn wr dq) osq = w2 at *
      go_wp2
      go_roundw
      case rel => exact ⟨k + 1, by omega, by go_num, HB2.out⟩
      case measure => simp [intOf]; omega
    · go_wp2
      go_ret
      exact ⟨rfl, hb⟩

set_option maxRecDepth 100000 in
set_option maxHeartbeats 1000000 in
theorem areTexts_any {v : Value} {len n : Nat} {w : World} (h : RdM w 9 1 v len (fT n)) (hn : n ≤ 4194304) :
    Calls Tryz.prog 72 #[v, .int .i64 n] w fun e w' => e = .returned (.bool true) ∧ Below w.heap.size w w' := by
  obtain ⟨a, c, rfl, hc, hm⟩ := rdM_len h
  unfold maxLen at hm
  have HR := hide h
  clear h
  go_enter Tryz.func72, Tryz.ntmps72
  go_wp2_with fail
  go_loopw [5] (fun i wr => ∃ k : Nat, k ≤ len ∧ i = .int .i64 k ∧ Below w.heap.size w wr) (fun i _ => len - (intOf i).toNat)
  case atStart => exact ⟨0, Nat.zero_le _, rfl, Below.refl _ _⟩
  case round =>
    obtain ⟨k, hk, rfl, hb⟩ := hrel
    by_cases hlt : k < len
    · obtain ⟨g, rfl, _, hcl⟩ := rdM_at (HR.out.below hb) (by omega)
      have d1 := cell_regrown (hcl k (by omega))
      unfold fT at d1
      have CM := hide (fun d os => Calls.regrown_of (w := wr) (d := d) (os := os) (markText_any n (Sort.grow (redrawn wr d) os) (by omega)))
      generalize mT n = x at *
      have HB := hide hb
      clear hb hcl
      go_wp2
      refine wp_region_quiet_below (by kernel_rfl) (by kernel_rfl) ?_
      repeat (go_big_quiet_step (first | (go_at_call 138; exact CM.out _ _)))
      refine wpQuiet_nil ?_
      intro _ hw'
      obtain ⟨⟨dq, osq⟩, hw''⟩ := hw'
      subst hw''
      have HB2 := hide (HB.out.trans ((below_regrown wr dq osq).mono HB.out.size))
      clear d1 CM
      generalize Sort.grow (redrawn wr dq) osq = w2 at *
      go_wp2
      go_roundw
      case rel => exact ⟨k + 1, by omega, by go_num, HB2.out⟩
      case measure => simp [intOf]; omega
    · go_wp2
      go_ret
      exact ⟨rfl, hb⟩

set_option maxRecDepth 100000 in
set_option maxHeartbeats 1000000 in
theorem areEntries_any {v : Value} {len n : Nat} {w : World} (h : RdM w 66 3 v len (fE n)) (hn : n ≤ 4194304) :
    Calls Tryz.prog 73 #[v, .int .i64 n] w fun e w' => e = .returned (.bool true) ∧ Below w.heap.size w w' := by
  obtain ⟨a, c, rfl, hc, hm⟩ := rdM_len h
  unfold maxLen at hm
  have HR := hide h
  clear h
  go_enter Tryz.func73, Tryz.ntmps73
  go_wp2_with fail
  go_loop [5] (fun i => ∃ k : Nat, k ≤ len ∧ i = .int .i64 k) (fun i => len - (intOf i).toNat)
  case atStart => exact ⟨0, Nat.zero_le _, rfl⟩
  case round =>
    obtain ⟨k, hk, rfl⟩ := hrel
    by_cases hlt : k < len
    · obtain ⟨g, rfl, _, hcl⟩ := rdM_at HR.out (by omega)
      have d0 := hcl (k * 3) (by omega)
      have d1 := hcl (k * 3 + 1) (by omega)
      have d2 := hcl (k * 3 + 2) (by omega)
      unfold fE at d0 d1 d2
      rw [if_pos (by omega)] at d0
      rw [if_neg (by omega), if_pos (by omega)] at d1
      rw [if_neg (by omega), if_neg (by omega)] at d2
      clear hcl
      go_wp2
      go_round
      case rel => exact ⟨k + 1, by omega, by go_num⟩
      case measure => simp [intOf]; omega
    · go_wp2
      go_ret
      exact ⟨rfl, Below.refl _ _⟩
end Go.Proofs.YtkncboinfcnklaaGreatDoor

namespace Go.Proofs.YtkncboinfcnklaaGreatDoor
open Go.RowKit Go.Deep Go.Proofs.YtkncboinfcnklaaGreatDoor.Mth

section
variable {P : Program} (w : World)

/-- append onto a slice of the call's own: what the elder slice, and the rest of memory, are behind it. -/
theorem run_append_keep (base : Nat) (t ty e : TypeId) (i : TypeInfo) (z : Value) (size bytes : Nat) (ht : P.underlying t = some (.slice e)) (hi : P.info? e = some i) (hz : i.zero = some z)
    (hsize : i.size = size) (hby : i.bytes = bytes) (hzs : z.cells.size = size) (hsz : 0 < size)
    (v : Value) (n : Nat) (xs : List Value) (hown : w.ownsRow base e size v n xs)
    (a : Addr) (m c : Nat) (news : List Value) (hl : news.length = m * size) (hnews : ∀ j u, news[j]? = some u → w.cell? (a.add j) = some u) (h1 : ∀ u ∈ news, u.oneCell' = true)
    (h63 : n + m ≤ maxLen) (hbytes : (n + m) * bytes ≤ 140737488355328) (hbase : base ≤ w.heap.size) (_hm0 : 0 < m) :
    ∃ v' w', (Builtin.append_ #[t, t] ty #[v, .slice (some a) m c]).run P w = .ok v' w' ∧ w'.ownsRow base e size v' (n + m) (xs ++ news) ∧ w.grownBy w' v.ownBlock ∧
      w'.ownsRow base e size v n xs ∧ (v'.ownBlock = v.ownBlock ∨ w.grownBy w' none) := by
  obtain ⟨v', w', hr, h2, h3, h4, h5⟩ := run_append_own_at (P := P) w base t ty e i z size bytes ht hi hz hsize hby hzs hsz v n xs hown a m c news hl hnews h1 h63 hbytes hbase
  refine ⟨v', w', hr, h2, h3, ?_⟩
  subst hsize
  subst hby
  have hsmall : n + m ≤ 9223372036854775807 := by simp only [maxLen] at h63; omega
  rcases hown.2 with ⟨rfl, rfl⟩ | ⟨g, cap, cur, rfl, hbg, hg, hnc, hcm, hcs, htake⟩
  · have hx : xs = [] := List.eq_nil_of_length_eq_zero (by simpa using hown.1)
    subst hx
    exact ⟨World.ownsRow_nil _ _ _ _, Or.inr h3⟩
  · by_cases hroom : n + m ≤ cap
    · have hfit : n * i.size + news.length ≤ cur.size := by rw [hl, hcs, ← Nat.add_mul]; exact Nat.mul_le_mul_right _ hroom
      have hr' := run_append_room (P := P) w t ty e i ht hi g n cap cur hg a m c news hl hnews h1 hroom hfit
      rw [hr] at hr'
      injection hr' with e1 e2
      subst e1 e2
      refine ⟨⟨hown.1, .inr ⟨g, cap, _, rfl, hbg, setRow_heap w g cur _ e _ hg, hnc, hcm, ?_, ?_⟩⟩, Or.inl rfl⟩
      · simp only [List.size_toArray, List.length_append, List.length_take, List.length_drop, Array.length_toList]
        omega
      · rw [htake, List.append_assoc, List.take_append_of_le_length (by rw [hown.1]; exact Nat.le_refl _), List.take_of_length_le (by rw [hown.1]; exact Nat.le_refl _)]
    · have holds : ∀ j u, xs[j]? = some u → w.cell? ((⟨g, 0, none⟩ : Addr).add j) = some u := hown.cells (g := g) rfl
      have hr' := run_append_grow (P := P) w t ty e i z ht hi hz ⟨g, 0, none⟩ n cap xs hown.1 holds a m c news hl hnews (by omega) (by omega) (growslice_fits (by omega) hbytes)
      rw [hr] at hr'
      injection hr' with e1 e2
      subst e1 e2
      have hg2 : w.grownBy (w.drew.alloc (.cells (xs.toArray ++ news.toArray ++ Builtin.zeroCells z.cells (grownCap w (n + m) cap e - (n + m))) e)) none := ⟨rfl, rfl, rfl, by simp, fun k hk _ => _root_.Go.heap_alloc_old w.drew _ hk⟩
      exact ⟨hown.kept hg2 (Or.inr (by simp [Value.ownBlock])), Or.inr hg2⟩

end

/-- The marks of so many elements. -/
def mks (f : Nat → Value) (n : Nat) : List Value := (List.range n).map f
theorem mks_len (f : Nat → Value) (n : Nat) : (mks f n).length = n := by simp [mks]
theorem mks_app (f : Nat → Value) (n m : Nat) : mks f (n + m) = mks f n ++ (List.range m).map (fun j => f (n + j)) := by
  unfold mks
  rw [List.range_add, List.map_append, List.map_map]
  rfl

/-- An elder slice reads as it did, behind an append of marks onto v. -/
theorem rdM_app {w w2 : World} {B : Nat} {e : TypeId} {sz : Nat} {u v v2 : Value} {k N : Nat} {f : Nat → Value} (h : RdM w e sz u k f) (hk : k ≤ N) (ho : w2.ownsRow B e sz v2 N (mks f (N * sz))) (hg : w.grownBy w2 v.ownBlock) (hor : v2.ownBlock = v.ownBlock ∨ w.grownBy w2 none) : RdM w2 e sz u k f := by
  obtain ⟨a, c, rfl, h1, h2, h⟩ := h
  refine ⟨a, c, rfl, h1, h2, h.imp id ?_⟩
  rintro ⟨g, C, rfl, hgb, hc⟩
  have hlt : g < w.heap.size := (Array.getElem?_eq_some_iff.1 hgb).1
  by_cases hs : w2.heap[g]? = w.heap[g]?
  · exact ⟨g, C, rfl, hs.trans hgb, fun j hj => by rw [World.cell?_of_block (w := w) (a := ⟨g, j, none⟩) hs]; exact hc j hj⟩
  · have hv : some g = v.ownBlock := by
      apply Classical.byContradiction
      intro q
      exact hs (hg.block g hlt q)
    have hv2 : v2.ownBlock = some g := by
      rcases hor with q | q
      · rw [q, hv]
      · exact absurd (q.block g hlt (by simp)) hs
    have hcells := fun g' hg' => ho.cells (g := g') hg'
    rcases ho.2 with ⟨rfl, _⟩ | ⟨g2, cap2, cur2, rfl, _, hg2, _⟩
    · simp [Value.ownBlock] at hv2
    · simp [Value.ownBlock] at hv2
      subst hv2
      refine ⟨g2, cur2, rfl, hg2, fun j hj => ?_⟩
      have hjN : j < N * sz := Nat.lt_of_lt_of_le hj (Nat.mul_le_mul_right _ hk)
      have := hcells g2 rfl j (f j) (by simp [mks, hjN])
      rwa [show (⟨g2, 0, none⟩ : Addr).add j = ⟨g2, j, none⟩ from by unfold Addr.add; split <;> simp_all] at this

theorem mks_own {w : World} {B : Nat} {e : TypeId} {sz : Nat} {v : Value} {n : Nat} {f : Nat → Value} (h : w.ownsRow B e sz v n (mks f (n * sz))) : RdM w e sz v n f := rdM_own h

/-- A cell of another kind of block is written. -/
theorem rdM_set {w : World} {e e' : TypeId} {sz : Nat} {u : Value} {k : Nat} {f : Nat → Value} {xb o : Nat} {C : Array Value} {fr : Nat × Nat} {y : Value} (h : RdM w e sz u k f) (hx : w.heap[xb]? = some (Obj.cells C e' fr)) (hne : e' ≠ e) : RdM (w.setCell ⟨xb, o, none⟩ y) e sz u k f := by
  refine h.keep fun g D hg => ?_
  refine set_other (fun q => ?_)
  subst q
  rw [hx] at hg
  injection hg with hg
  injection hg with _ hg _
  exact hne hg

theorem own_set_other {w : World} {B : Nat} {e e' : TypeId} {sz : Nat} {v : Value} {n : Nat} {xs : List Value} {xb o : Nat} {C : Array Value} {fr : Nat × Nat} {y : Value} (h : w.ownsRow B e sz v n xs) (hx : w.heap[xb]? = some (Obj.cells C e' fr)) (hne : e' ≠ e) : (w.setCell ⟨xb, o, none⟩ y).ownsRow B e sz v n xs := by
  refine ⟨h.1, h.2.imp id ?_⟩
  rintro ⟨g, cap, cur, hv, h1, hg, h2⟩
  refine ⟨g, cap, cur, hv, h1, ?_, h2⟩
  rw [set_other (fun q => ?_)]
  · exact hg
  · subst q
    rw [hx] at hg
    injection hg with hg
    injection hg with _ hg _
    exact hne hg

/-- A cell of an owned row is written. -/
theorem own_store {w : World} {B : Nat} {e : TypeId} {sz : Nat} {g n cap : Nat} {xs : List Value} {i : Nat} {y : Value} (h : w.ownsRow B e sz (.slice (some ⟨g, 0, none⟩) n cap) n xs) (_hi : i < n * sz) : (w.setCell ⟨g, i, none⟩ y).ownsRow B e sz (.slice (some ⟨g, 0, none⟩) n cap) n (xs.set i y) := by
  rcases h.2 with ⟨q, _⟩ | ⟨g', cap', cur, hv, h1, hg, h2, h3, h4, h5⟩
  · cases q
  · cases hv
    refine ⟨by rw [List.length_set]; exact h.1, .inr ⟨g, cap, cur.setIfInBounds i y, rfl, h1, ?_, h2, h3, by rw [Array.size_setIfInBounds]; exact h4, ?_⟩⟩
    · simp [World.setCell, Array.getElem?_modify, hg]
    · rw [Array.toList_setIfInBounds, List.take_set, h5]
theorem own_at {w : World} {B : Nat} {e : TypeId} {sz : Nat} {g n cap : Nat} {xs : List Value} {i : Nat} (h : w.ownsRow B e sz (.slice (some ⟨g, 0, none⟩) n cap) n xs) (hi : i < n * sz) : (∃ y, w.cell? ⟨g, i, none⟩ = some y) ∧ w.frozen? ⟨g, i, none⟩ = false := by
  have hc := h.cells (g := g) rfl i (xs[i]'(by rw [h.1]; exact hi)) (by simp)
  rw [show (⟨g, 0, none⟩ : Addr).add i = ⟨g, i, none⟩ from by unfold Addr.add; split <;> simp_all] at hc
  refine ⟨⟨_, hc⟩, ?_⟩
  rcases h.2 with ⟨q, _⟩ | ⟨g', cap', cur, hv, h1, hg, _⟩
  · cases q
  · cases hv
    simp [World.frozen?, hg]
theorem own_ge {w : World} {B : Nat} {e : TypeId} {sz : Nat} {g n cap : Nat} {xs : List Value} (h : w.ownsRow B e sz (.slice (some ⟨g, 0, none⟩) n cap) n xs) : B ≤ g ∧ g < w.heap.size ∧ n ≤ cap ∧ cap ≤ maxLen ∧ ∃ C, w.heap[g]? = some (Obj.cells C e (0, 0)) := by
  rcases h.2 with ⟨q, _⟩ | ⟨g', cap', cur, hv, h1, hg, h2, h3, _⟩
  · cases q
  · cases hv
    exact ⟨h1, (Array.getElem?_eq_some_iff.1 hg).1, h2, h3, cur, hg⟩
end Go.Proofs.YtkncboinfcnklaaGreatDoor

namespace Go.Proofs.YtkncboinfcnklaaGreatDoor
open Go.RowKit Go.Deep Go.Proofs.YtkncboinfcnklaaGreatDoor.Mth

/-- A list that came out, and what it was appended to. -/
structure Qd where
  l : Value
  a : Value
  b : Value
  c : Value
def qc (q : Nat → Qd) (i : Nat) : List Value := [(q i).l, (q i).a, (q i).b, (q i).c, .int .i64 (i : Int)]

/-- While a list is kept. -/
structure KSt (w W : World) (B0 xb : Nat) (T e : TypeId) (sz : Nat) (v : Value) (n : Nat) (f : Nat → Value) (X : Array Value) (us : List (Value × Nat)) : Prop where
  own : W.ownsRow B0 e sz v n (mks f (n * sz))
  x : W.heap[xb]? = some (Obj.cells X T (0, 0))
  ge : B0 ≤ xb
  same : ∀ g : Nat, g < B0 → W.heap[g]? = w.heap[g]?
  os : W.os = w.os
  tape : W.tape = w.tape
  output : W.output = w.output
  size : w.heap.size ≤ W.heap.size
  rd : ∀ p ∈ us, RdM W e sz p.1 p.2 f

theorem own_block {w : World} {B : Nat} {e : TypeId} {sz : Nat} {v : Value} {n : Nat} {xs : List Value} (h : w.ownsRow B e sz v n xs) {g : Nat} (hg : some g = v.ownBlock) : B ≤ g ∧ g < w.heap.size ∧ ∃ C, w.heap[g]? = some (Obj.cells C e (0, 0)) := by
  rcases h.2 with ⟨rfl, _⟩ | ⟨g', cap, cur, rfl, h1, h2, _⟩
  · simp [Value.ownBlock] at hg
  · simp [Value.ownBlock] at hg
    subst hg
    exact ⟨h1, (Array.getElem?_eq_some_iff.1 h2).1, cur, h2⟩

theorem own_slice {w : World} {B : Nat} {e : TypeId} {sz : Nat} {v : Value} {n : Nat} {xs : List Value} (h : w.ownsRow B e sz v n xs) : ∃ a c, v = .slice a n c ∧ n ≤ c ∧ c ≤ maxLen := by
  rcases h.2 with ⟨rfl, rfl⟩ | ⟨g, cap, cur, rfl, _, _, h1, h2, _⟩
  · exact ⟨none, 0, rfl, Nat.le_refl _, by unfold maxLen; omega⟩
  · exact ⟨_, cap, rfl, h1, h2⟩

theorem KSt.app {w W W2 : World} {B0 xb : Nat} {T e : TypeId} {sz : Nat} {v v2 : Value} {n m : Nat} {f : Nat → Value} {X : Array Value} {us : List (Value × Nat)} {o : Obj} {i : Nat} (h : KSt w W B0 xb T e sz v n f X us) (hT : T ≠ e)
    (h1 : W2.ownsRow B0 e sz v2 (n + m) (mks f (n * sz) ++ (List.range (m * sz)).map (fun j => f (n * sz + j)))) (h2 : (W.alloc o).grownBy W2 v.ownBlock) (h3 : W2.ownsRow B0 e sz v n (mks f (n * sz))) (h4 : v2.ownBlock = v.ownBlock ∨ (W.alloc o).grownBy W2 none) (hus : ∀ p ∈ us, p.2 ≤ n + m) :
    KSt w (W2.setCell ⟨xb, i, none⟩ v2) B0 xb T e sz v n f (X.setIfInBounds i v2) ((v2, n + m) :: us) := by
  have hxs := (Array.getElem?_eq_some_iff.1 h.x).1
  have hne : ∀ g C, W.heap[g]? = some (Obj.cells C T (0, 0)) → some g ≠ v.ownBlock := by
    intro g C hC q
    obtain ⟨_, _, D, hD⟩ := own_block h.own q
    rw [hC] at hD
    injection hD with hD
    injection hD with _ hD _
    exact hT hD
  have hx2 : W2.heap[xb]? = some (Obj.cells X T (0, 0)) := by
    rw [h2.block xb (by simp; omega) (hne xb X h.x), _root_.Go.heap_alloc_old W o hxs]
    exact h.x
  have ho : W2.ownsRow B0 e sz v2 (n + m) (mks f ((n + m) * sz)) := by
    rw [Nat.add_mul, mks_app]; exact h1
  refine ⟨own_set_other h3 hx2 hT, ?_, h.ge, ?_, ?_, ?_, ?_, ?_, ?_⟩
  · simp [World.setCell, Array.getElem?_modify, hx2]
  · intro g hg
    have hge := h.ge
    rw [set_other (by omega), h2.block g (by simp; omega) (fun q => by have := (own_block h.own q).1; omega), _root_.Go.heap_alloc_old W o (r := g) (by omega)]
    exact h.same g hg
  · exact h2.os.trans h.os
  · exact h2.tape.trans h.tape
  · exact h2.output.trans h.output
  · have q1 := h2.size
    have q2 := h.size
    simp at q1 ⊢
    omega
  · intro p hp
    rcases List.mem_cons.1 hp with q | q
    · subst q
      exact rdM_set (mks_own ho) hx2 hT
    · exact rdM_set (rdM_app ((h.rd p q).below (below_alloc W o)) (hus p q) ho h2 h4) hx2 hT

theorem KSt.x2 {w W W2 : World} {B0 xb : Nat} {T e : TypeId} {sz : Nat} {v : Value} {n : Nat} {f : Nat → Value} {X : Array Value} {us : List (Value × Nat)} {o : Obj} (h : KSt w W B0 xb T e sz v n f X us) (hT : T ≠ e) (h2 : (W.alloc o).grownBy W2 v.ownBlock) : W2.heap[xb]? = some (Obj.cells X T (0, 0)) := by
  have hxs := (Array.getElem?_eq_some_iff.1 h.x).1
  rw [h2.block xb (by simp; omega) (fun q => ?_), _root_.Go.heap_alloc_old W o hxs]
  · exact h.x
  · obtain ⟨_, _, D, hD⟩ := own_block h.own q
    rw [h.x] at hD
    injection hD with hD
    injection hD with _ hD _
    exact hT hD

/-- What the keeping leaves. -/
structure Kept (w w' : World) (B0 wb off B : Nat) (T e : TypeId) (sz : Nat) (f : Nat → Value) (tv tv' : Value) (N : Nat) (xs : List Value) (C : Array Value) (Q : Qd) (n : Nat) : Prop where
  row : w'.ownsRow B T 5 tv' (N + 1) (xs ++ [Q.l, Q.a, Q.b, Q.c, .int .i64 (N : Int)])
  wblk : w'.heap[wb]? = some (Obj.cells (C.setIfInBounds off tv') 91 (0, 0))
  same : ∀ g : Nat, g < B0 → g ≠ wb → some g ≠ tv.ownBlock → w'.heap[g]? = w.heap[g]?
  os : w'.os = w.os
  tape : w'.tape = w.tape
  output : w'.output = w.output
  size : w.heap.size ≤ w'.heap.size
  rl : RdM w' e sz Q.l n f
  ra : RdM w' e sz Q.a (n + 1) f
  rb : RdM w' e sz Q.b (n + 2) f
  rc : RdM w' e sz Q.c (n + 3) f

theorem RdM.own_app {w w' : World} {e T : TypeId} {sz : Nat} {u : Value} {k : Nat} {f : Nat → Value} {B N : Nat} {tv : Value} {xs : List Value} {o : Obj} (h : RdM w e sz u k f) (ho : w.ownsRow B T 5 tv N xs) (hg : (w.alloc o).grownBy w' tv.ownBlock) (hT : T ≠ e) : RdM w' e sz u k f := by
  refine h.keep fun g C hC => ?_
  have hlt := (Array.getElem?_eq_some_iff.1 hC).1
  rw [hg.block g (by simp; omega) (fun q => ?_), _root_.Go.heap_alloc_old w o hlt]
  obtain ⟨_, _, D, hD⟩ := own_block ho q
  rw [hC] at hD
  injection hD with hD
  injection hD with _ hD _
  exact hT hD.symm

theorem kept_of {w W W2 : World} {B0 xb wb off B : Nat} {T e : TypeId} {sz : Nat} {v tv tv' : Value} {n N : Nat} {f : Nat → Value} {X C : Array Value} {xs : List Value} {va vb vc : Value} {o : Obj}
    (h : KSt w W B0 xb T e sz v n f X [(vc, n + 3), (vb, n + 2), (va, n + 1)]) (hT : T ≠ e) (hTW : T ≠ 91) (heW : 91 ≠ e) (hwb : wb < B0) (hC : w.heap[wb]? = some (Obj.cells C 91 (0, 0)))
    (hrow : W.ownsRow B T 5 tv N xs) (h1 : W2.ownsRow B T 5 tv' (N + 1) (xs ++ [v, va, vb, vc, .int .i64 (N : Int)])) (h2 : (W.alloc o).grownBy W2 tv.ownBlock) (hB0 : B0 ≤ w.heap.size) :
    Kept w (W2.setCell ⟨wb, off, none⟩ tv') B0 wb off B T e sz f tv tv' N xs C ⟨v, va, vb, vc⟩ n := by
  have hs := h.size
  have hW : W.heap[wb]? = some (Obj.cells C 91 (0, 0)) := (h.same wb hwb).trans hC
  have hne : some wb ≠ tv.ownBlock := by
    intro q
    obtain ⟨_, _, D, hD⟩ := own_block hrow q
    rw [hW] at hD
    injection hD with hD
    injection hD with _ hD _
    exact hTW hD.symm
  have hW2 : W2.heap[wb]? = some (Obj.cells C 91 (0, 0)) := by
    rw [h2.block wb (by simp; omega) hne, _root_.Go.heap_alloc_old W o (r := wb) (by omega)]
    exact hW
  have fin : ∀ {u : Value} {k : Nat}, RdM W e sz u k f → RdM (W2.setCell ⟨wb, off, none⟩ tv') e sz u k f := fun hu => rdM_set (hu.own_app hrow h2 hT) hW2 heW
  refine ⟨own_set_other h1 hW2 (Ne.symm hTW), ?_, ?_, ?_, ?_, ?_, ?_, fin (mks_own h.own), fin (h.rd (va, n + 1) (by simp)), fin (h.rd (vb, n + 2) (by simp)), fin (h.rd (vc, n + 3) (by simp))⟩
  · simp [World.setCell, Array.getElem?_modify, hW2]
  · intro g hg hgw hgt
    rw [set_other hgw, h2.block g (by simp; omega) hgt, _root_.Go.heap_alloc_old W o (r := g) (by omega)]
    exact h.same g hg
  · exact h2.os.trans h.os
  · exact h2.tape.trans h.tape
  · exact h2.output.trans h.output
  · have q1 := h2.size
    simp at q1 ⊢
    omega

theorem own_same {w w' : World} {B : Nat} {e : TypeId} {sz : Nat} {v : Value} {n : Nat} {xs : List Value} (h : w.ownsRow B e sz v n xs) (hs : ∀ g, some g = v.ownBlock → w'.heap[g]? = w.heap[g]?) : w'.ownsRow B e sz v n xs := by
  refine ⟨h.1, h.2.imp id ?_⟩
  rintro ⟨g, cap, cur, rfl, h1, hg, h2⟩
  exact ⟨g, cap, cur, rfl, h1, (hs g rfl).trans hg, h2⟩

/-- A block beside the row that was appended to. -/
theorem beside {W W2 : World} {tv : Value} {o : Obj} {g : Nat} {D : Obj} (h2 : (W.alloc o).grownBy W2 tv.ownBlock) (hg : W.heap[g]? = some D) (hne : some g ≠ tv.ownBlock) : W2.heap[g]? = some D := by
  have hlt := (Array.getElem?_eq_some_iff.1 hg).1
  rw [h2.block g (by simp; omega) hne, _root_.Go.heap_alloc_old W o hlt]
  exact hg

theorem cells_new (w : World) (cs : Array Value) (t : TypeId) (xs : List Value) (h : cs.toList = xs) : ∀ j u, xs[j]? = some u → (w.alloc (.cells cs t)).cell? ((⟨w.heap.size, 0, none⟩ : Addr).add j) = some u := by
  intro j u hj
  have hb : (w.alloc (.cells cs t)).heap[w.heap.size]? = some (.cells cs t (0, 0)) := by
    show (w.heap.push _)[w.heap.size]? = _
    rw [Array.getElem?_push, if_pos rfl]
  rw [show (⟨w.heap.size, 0, none⟩ : Addr).add j = ⟨w.heap.size, j, none⟩ from by unfold Addr.add; split <;> simp_all]
  simp only [World.cell?, hb]
  subst h
  simpa using hj

theorem cells_new2 (w : World) (b : Nat) (hb0 : b = w.heap.size) (cs : Array Value) (t : TypeId) (xs : List Value) (h : cs.toList = xs) : ∀ j u, xs[j]? = some u → (w.alloc (.cells cs t)).cell? ((⟨b, 0, none⟩ : Addr).add j) = some u := by
  subst hb0
  exact cells_new w cs t xs h

theorem cell_of {w : World} {b : Nat} {C : Array Value} {t : TypeId} {j : Nat} {u : Value} (h : w.heap[b]? = some (Obj.cells C t (0, 0))) (hu : C[j]? = some u) : w.cell? ⟨b, j, none⟩ = some u ∧ w.frozen? ⟨b, j, none⟩ = false := by
  constructor
  · simp only [World.cell?, h]; exact hu
  · simp [World.frozen?, h]
end Go.Proofs.YtkncboinfcnklaaGreatDoor
