import Derived.Test.YtkncboinfcnklaaGreatDoorQ4
namespace Go.Proofs.YtkncboinfcnklaaGreatDoor
open Go.RowKit Go.Deep Go.Proofs.YtkncboinfcnklaaGreatDoor.Mth

theorem isE_no {s t : Int} {x : ByteArray} (h : isE ⟨s, t, x⟩ = false) : s < 0 ∨ 1000000000000 < s ∨ t < 0 ∨ 1000000000000 < t ∨ 60 < x.size := by
  unfold isE at h
  simp only [Bool.and_eq_false_iff, decide_eq_false_iff_not] at h
  omega
theorem isE_yes {s t : Int} {x : ByteArray} (h : isE ⟨s, t, x⟩ = true) : 0 ≤ s ∧ s ≤ 1000000000000 ∧ 0 ≤ t ∧ t ≤ 1000000000000 ∧ x.size ≤ 60 := by
  unfold isE at h
  simp only [Bool.and_eq_true, decide_eq_true_iff] at h
  omega

set_option maxRecDepth 100000 in
set_option maxHeartbeats 4000000 in
theorem refIsSeg_core (a : Option Addr) (c : Nat) (l : List Ent) (w : World) (h : RdE w (.slice a l.length c) l) (h1 : 1 ≤ l.length) (h64 : l.length ≤ 64) (r : Bool) (hr : Hid (r = (List.range l.length).all (okAt l))) :
    Calls Tryz.prog 102 #[.slice a l.length c] w fun e w' => e = .returned (.bool r) ∧ Below w.heap.size w w' := by
  have HR := hide h
  clear h
  generalize hn : l.length = n at *
  have HN := hide hn
  clear hn
  have q1 : decide ((n : Int) < 1) = false := by simp; omega
  have q2 : decide ((64 : Int) < (n : Int)) = false := by simp; omega
  have q3 : ¬ (n : Int) < 1 := by omega
  have q4 : ¬ (64 : Int) < (n : Int) := by omega
  go_enter Tryz.func102, Tryz.ntmps102
  go_wp2_with fail
  clear q1 q2 q3 q4
  go_loopw [3] (fun i wr => ∃ k : Nat, k ≤ n ∧ i = .int .i64 k ∧ Below w.heap.size w wr ∧ (∀ i, i < k → okAt l i = true)) (fun i _ => n - (intOf i).toNat)
  case atStart => exact ⟨0, Nat.zero_le _, rfl, Below.refl _ _, fun i hi => absurd hi (Nat.not_lt_zero _)⟩
  case round =>
    obtain ⟨k, hk, rfl, hb, hall⟩ := hrel
    have HALL0 := hide hall
    clear hall
    by_cases hlt : k < n
    · have hrd := HR.out.below hb
      obtain ⟨b, o, rfl, hblt, c0, c1, c2⟩ := rdE_at hrd k (by rw [HN.out]; exact hlt)
      cases hE : isE (l.getD k e0) with
      | false =>
        have HOK : Hid (okAt l k = false) := by show _ = _; unfold okAt; rw [hE]; rfl
        generalize l.getD k e0 = e at *
        obtain ⟨s, t, x⟩ := e
        have hno := isE_no hE
        simp only at c0 c1 c2
        have HWB := hide (hb.trans ((below_alloc wr (Obj.cells #[Value.int IntKind.i64 s, Value.int IntKind.i64 t, Value.string x] 66)).mono hb.size))
        clear hrd hE hb
        rcases hno with hno | hno | hno | hno | hno
        all_goals (go_wp2; all_goals (go_ret; exact ⟨by rw [hr.out, all_false hlt HOK.out]; rfl, HWB.out⟩))
      | true =>
        by_cases hk0 : k = 0
        · subst hk0
          have HOK : Hid (okAt l 0 = true) := by show _ = _; unfold okAt; rw [hE]; simp
          generalize l.getD 0 e0 = e at *
          obtain ⟨s, t, x⟩ := e
          obtain ⟨y0, y1, y2, y3, y4⟩ := isE_yes hE
          simp only [Nat.zero_mul, Nat.add_zero] at c0 c1 c2
          clear hrd hE
          go_wp2_with fail
          have hWb := below_alloc wr (Obj.cells #[Value.int IntKind.i64 s, Value.int IntKind.i64 t, Value.string x] 66)
          have HWB := hide (hb.trans (hWb.mono hb.size))
          clear c0 c1 c2 hWb hb
          generalize (wr.alloc (Obj.cells #[Value.int IntKind.i64 s, Value.int IntKind.i64 t, Value.string x] 66)) = W at *
          generalize wr.heap.size = nb at *
          refine wp_region_quiet_below (by kernel_rfl) (by kernel_rfl) ?_
          repeat (go_big_quiet_step (fail))
          refine wpQuiet_nil ?_
          intro _ hw'
          obtain ⟨⟨dq, osq⟩, hw''⟩ := hw'
          subst hw''
          have HB1 := hide (below_regrown W dq osq)
          generalize Sort.grow (redrawn W dq) osq = w1 at *
          go_wp2
          go_roundw
          case rel => exact ⟨1, by omega, by go_num, HWB.out.trans (HB1.out.mono HWB.out.size), fun i hi => by have : i = 0 := (by omega); subst this; exact HOK.out⟩
          case measure => simp [intOf]; omega
        · have hrd' := hrd
          obtain ⟨b', o', e', _, d0, d1, d2⟩ := rdE_at hrd' (k - 1) (by rw [HN.out]; omega)
          injection e' with e'
          injection e' with e1 e2
          subst e1 e2
          have hok : Hid (okAt l k = fol (l.getD k e0) (l.getD (k - 1) e0)) := by show _ = _; unfold okAt; rw [hE]; simp [hk0]
          generalize l.getD k e0 = e at *
          generalize l.getD (k - 1) e0 = e' at *
          obtain ⟨s, t, x⟩ := e
          obtain ⟨s', t', x'⟩ := e'
          obtain ⟨y0, y1, y2, y3, y4⟩ := isE_yes hE
          simp only at c0 c1 c2 d0 d1 d2
          clear hrd hrd' hE
          have hbwr : b < wr.heap.size := hblt
          go_wp2_with fail
          have k0 : (wr.alloc (Obj.cells #[Value.int IntKind.i64 s, Value.int IntKind.i64 t, Value.string x] 66)).cell? ⟨wr.heap.size, 0, none⟩ = some (.int .i64 s) := by simp
          have k1 : (wr.alloc (Obj.cells #[Value.int IntKind.i64 s, Value.int IntKind.i64 t, Value.string x] 66)).cell? ⟨wr.heap.size, 1, none⟩ = some (.int .i64 t) := by simp
          have hWb := below_alloc wr (Obj.cells #[Value.int IntKind.i64 s, Value.int IntKind.i64 t, Value.string x] 66)
          have g0 := (hWb.cell (p := ⟨b, o + (k - 1) * 3, none⟩) hbwr).trans d0
          have g1 := (hWb.cell (p := ⟨b, o + (k - 1) * 3 + 1, none⟩) hbwr).trans d1
          clear d0 d1 d2
          have hkk : (0 : Int) < (k : Int) := by omega
          have hkk2 : decide (0 < k) = true := by simp; omega
          have HWB := hide (hb.trans (hWb.mono hb.size))
          clear c0 c1 c2 hWb hb
          generalize (wr.alloc (Obj.cells #[Value.int IntKind.i64 s, Value.int IntKind.i64 t, Value.string x] 66)) = W at *
          generalize wr.heap.size = nb at *
          have k0' := cell_regrown k0
          have k1' := cell_regrown k1
          have g0' := cell_regrown g0
          have g1' := cell_regrown g1
          clear hbwr hblt g0 g1
          by_cases hF1 : s' < s
          · have z1 : decide (s ≤ s') = false := by simp; omega
            have z2 : ¬ s ≤ s' := by omega
            by_cases hF2 : t' ≤ t
            · have z3 : decide (t < t') = false := by simp; omega
              have z4 : ¬ t < t' := by omega
              have HOK : Hid (okAt l k = true) := by rw [hok.out]; show _ = _; unfold fol; simp [hF1, hF2]
              clear hok
              refine wp_region_quiet_below (by kernel_rfl) (by kernel_rfl) ?_
              repeat (go_big_quiet_step (fail))
              refine wpQuiet_nil ?_
              intro _ hw'
              obtain ⟨⟨dq, osq⟩, hw''⟩ := hw'
              subst hw''
              have HB1 := hide (below_regrown W dq osq)
              clear k0' k1' g0' g1'
              generalize Sort.grow (redrawn W dq) osq = w1 at *
              go_wp2
              go_roundw
              case rel => exact ⟨k + 1, by omega, by go_num, HWB.out.trans (HB1.out.mono HWB.out.size), fun i hi => by by_cases c : i < k; exact HALL0.out i c; have : i = k := (by omega); subst this; exact HOK.out⟩
              case measure => simp [intOf]; omega
            · have z3 : decide (t < t') = true := by simp; omega
              have z4 : t < t' := by omega
              have HOK : Hid (okAt l k = false) := by rw [hok.out]; show _ = _; unfold fol; simp [hF2]
              clear hok
              refine wp_region_quiet_below (by kernel_rfl) (by kernel_rfl) ?_
              repeat (go_big_quiet_step (fail))
              refine wpQuiet_nil ?_
              intro _ hw'
              obtain ⟨⟨dq, osq⟩, hw''⟩ := hw'
              subst hw''
              have HB1 := hide (below_regrown W dq osq)
              clear k0' k1' g0' g1'
              generalize Sort.grow (redrawn W dq) osq = w1 at *
              go_wp2
              go_ret
              exact ⟨by rw [hr.out, all_false hlt HOK.out]; rfl, HWB.out.trans (HB1.out.mono HWB.out.size)⟩
          · have z1 : decide (s ≤ s') = true := by simp; omega
            have z2 : s ≤ s' := by omega
            have HOK : Hid (okAt l k = false) := by rw [hok.out]; show _ = _; unfold fol; simp [hF1]
            clear hok
            refine wp_region_quiet_below (by kernel_rfl) (by kernel_rfl) ?_
            repeat (go_big_quiet_step (fail))
            refine wpQuiet_nil ?_
            intro _ hw'
            obtain ⟨⟨dq, osq⟩, hw''⟩ := hw'
            subst hw''
            have HB1 := hide (below_regrown W dq osq)
            clear k0' k1' g0' g1'
            generalize Sort.grow (redrawn W dq) osq = w1 at *
            go_wp2
            go_ret
            exact ⟨by rw [hr.out, all_false hlt HOK.out]; rfl, HWB.out.trans (HB1.out.mono HWB.out.size)⟩
    · have HALL : Hid ((List.range n).all (okAt l) = true) := by
        show (List.range n).all (okAt l) = true
        rw [List.all_eq_true]
        intro i hi
        exact HALL0.out i (by have := List.mem_range.1 hi; omega)
      go_wp2
      go_ret
      exact ⟨by rw [hr.out, HALL.out]; rfl, hb⟩

/-- Is it a segment? -/
def segD (l : List Ent) : Bool := decide (l.length ≤ 64) && segB l
theorem segD_yes {l : List Ent} : segD l = true ↔ Seg l := by
  unfold segD
  constructor
  · intro h
    simp only [Bool.and_eq_true, decide_eq_true_iff] at h
    exact seg_of h.2 h.1
  · intro h
    simp only [Bool.and_eq_true, decide_eq_true_iff]
    exact ⟨h.2.1, segB_of h⟩

set_option maxHeartbeats 400000 in
theorem refIsSeg_zero (a : Option Addr) (c : Nat) (w : World) : Calls Tryz.prog 102 #[.slice a 0 c] w fun e w' => e = .returned (.bool false) ∧ Below w.heap.size w w' := by
  go_enter Tryz.func102, Tryz.ntmps102
  go_wp2
  go_ret
  exact ⟨rfl, Below.refl _ _⟩

set_option maxHeartbeats 400000 in
theorem refIsSeg_big (a : Option Addr) (n c : Nat) (w : World) (h : 64 < n) : Calls Tryz.prog 102 #[.slice a n c] w fun e w' => e = .returned (.bool false) ∧ Below w.heap.size w w' := by
  have q3 : ¬ (n : Int) < 1 := by omega
  have q4 : (64 : Int) < (n : Int) := by omega
  go_enter Tryz.func102, Tryz.ntmps102
  go_wp2
  go_ret
  exact ⟨rfl, Below.refl _ _⟩

theorem refIsSeg_any (v : Value) (l : List Ent) (w : World) (h : RdE w v l) : Calls Tryz.prog 102 #[v] w fun e w' => e = .returned (.bool (segD l)) ∧ Below w.heap.size w w' := by
  obtain ⟨a, c, rfl, _, _⟩ := rdE_len h
  by_cases h64 : l.length ≤ 64
  · by_cases h1 : 1 ≤ l.length
    · refine refIsSeg_core a c l w h h1 h64 (segD l) ?_
      show segD l = _
      unfold segD segB
      simp only [h1, h64, decide_true, Bool.true_and]
    · have : l = [] := List.length_eq_zero_iff.1 (by omega)
      subst this
      exact refIsSeg_zero a c w
  · have : segD l = false := by unfold segD; simp [h64]
    rw [this]
    exact refIsSeg_big a _ c w (by omega)

end Go.Proofs.YtkncboinfcnklaaGreatDoor

namespace Go.Proofs.YtkncboinfcnklaaGreatDoor
open Go.RowKit Go.Deep Go.Proofs.YtkncboinfcnklaaGreatDoor.Mth

theorem num1 (q : Int) : num q 1 = [q % 256] := by simp [num]

/-- The entries, up to one, that have a word. -/
def hasUp (l : List Ent) (x : ByteArray) (k : Nat) : List Int := ((List.range k).filter (fun i => memD x (wd (l.getD i e0).text))).map (fun i : Nat => (i : Int))

theorem filt1 {p : Nat → Bool} {k : Nat} : [k].filter p = if p k then [k] else [] := by
  cases h : p k <;> simp [List.filter, h]
theorem hasUp_no {l : List Ent} {x : ByteArray} {k : Nat} (h : memD x (wd (l.getD k e0).text) = false) : hasUp l x (k + 1) = hasUp l x k := by
  unfold hasUp
  rw [List.range_succ, List.filter_append, filt1, h, List.map_append]
  simp only [Bool.false_eq_true, if_false, List.map_nil, List.append_nil]
theorem hasUp_yes {l : List Ent} {x : ByteArray} {k : Nat} (h : memD x (wd (l.getD k e0).text) = true) : hasUp l x (k + 1) = hasUp l x k ++ [(k : Int)] := by
  unfold hasUp
  rw [List.range_succ, List.filter_append, filt1, h, List.map_append]
  simp only [if_true, List.map_cons, List.map_nil]
theorem hasUp_len (l : List Ent) (x : ByteArray) (k : Nat) : (hasUp l x k).length ≤ k := by
  unfold hasUp
  rw [List.length_map]
  exact Nat.le_trans (List.length_filter_le _ _) (by simp)

theorem hasUp_full (l : List Ent) (x : ByteArray) : hasUp l x l.length = hasTo (ws l) x := by
  unfold hasUp hasTo
  have hw : (ws l).length = l.length := by simp [ws]
  rw [hw]
  congr 1
  apply List.filter_congr
  intro i hi
  have hi' := List.mem_range.1 hi
  have e : (ws l).getD i [] = wd (l.getD i e0).text := by simp [ws, List.getD, hi']
  have key : memD x (wd (l.getD i e0).text) = true ↔ x ∈ (ws l).getD i [] := by rw [e]; exact memD_iff
  exact Bool.eq_iff_iff.2 (key.trans (@decide_eq_true_iff _ (_)).symm)

/-- What stands of one word. -/
def idxOne (l : List Ent) (x : ByteArray) : List Int := (((x.size : Int) % 256) :: tb x) ++ ((((hasUp l x l.length).length : Int) % 256) :: hasUp l x l.length)
theorem idxBy_take {l : List Ent} {W : List ByteArray} {k : Nat} (h : k < W.length) : idxBy (W.take (k + 1)) (ws l) = idxBy (W.take k) (ws l) ++ idxOne l (W.getD k ByteArray.empty) := by
  have snoc : ∀ (xs : List ByteArray) (x : ByteArray), idxBy (xs ++ [x]) (ws l) = idxBy xs (ws l) ++ idxOne l x := by
    intro xs x
    induction xs with
    | nil => simp [idxBy, idxOne, hasUp_full]
    | cons y ys ih => rw [List.cons_append, idxBy, idxBy, ih]; simp
  rw [List.take_succ_eq_append_getElem h, snoc]
  simp [List.getD, h]
theorem idxBy_le (l : List Ent) (W : List ByteArray) (k : Nat) : (idxBy (W.take k) (ws l)).length ≤ (idxBy W (ws l)).length := by
  have app : ∀ (xs ys : List ByteArray), idxBy (xs ++ ys) (ws l) = idxBy xs (ws l) ++ idxBy ys (ws l) := by
    intro xs ys
    induction xs with
    | nil => simp [idxBy]
    | cons y zs ih => rw [List.cons_append, idxBy, idxBy, ih]; simp
  conv => rhs; rw [← List.take_append_drop k W, app, List.length_append]
  omega

/-- All words of the first entries. -/
def wsTo (l : List Ent) (k : Nat) : List ByteArray := ((l.take k).map (fun e => wd e.text)).flatten
theorem wsTo_succ {l : List Ent} {k : Nat} (h : k < l.length) : wsTo l (k + 1) = wsTo l k ++ wd (l.getD k e0).text := by
  unfold wsTo
  rw [List.take_succ_eq_append_getElem h, List.map_append, List.flatten_append]
  simp [List.getD, h]

theorem body_by (l : List Ent) : body l = hd l ++ (num (mw l).length 2 ++ idxBy (mw l) (ws l)) := by unfold body; rw [idx_by]

theorem calls_num (n : Int) (many : Nat) (h0 : 0 ≤ n) (h1 : n < 9223372036854775808) (hm : many ≤ 8) (W : World) : ∀ d os, Calls Tryz.prog 165 #[.int .i64 n, .int .i64 many] (Sort.grow (redrawn W d) os) fun e w'' => e = .returned (.string (strOfNums (num n many))) ∧ ∃ p : Regrown, w'' = Sort.grow (redrawn W p.d) p.os :=
  fun _ _ => Calls.regrown_of (refBytes_any n many _ h0 h1 hm)
theorem calls_num8 (n : Int) (h0 : 0 ≤ n) (h1 : n < 9223372036854775808) (W : World) : ∀ d os, Calls Tryz.prog 165 #[.int .i64 n, .int .i64 8] (Sort.grow (redrawn W d) os) fun e w'' => e = .returned (.string (strOfNums (num n 8))) ∧ ∃ p : Regrown, w'' = Sort.grow (redrawn W p.d) p.os := calls_num n 8 h0 h1 (by omega) W
theorem calls_num1 (n : Int) (h0 : 0 ≤ n) (h1 : n < 9223372036854775808) (W : World) : ∀ d os, Calls Tryz.prog 165 #[.int .i64 n, .int .i64 1] (Sort.grow (redrawn W d) os) fun e w'' => e = .returned (.string (strOfNums (num n 1))) ∧ ∃ p : Regrown, w'' = Sort.grow (redrawn W p.d) p.os := calls_num n 1 h0 h1 (by omega) W

/-- The entries' part of a segment's bytes, and all words. -/
theorem take_mem {l : List ByteArray} {k : Nat} (h : k < l.length) (x : ByteArray) : x ∈ l.take (k + 1) ↔ x ∈ l.take k ∨ x = l.getD k ByteArray.empty := by
  rw [List.take_succ_eq_append_getElem h, List.mem_append, List.mem_singleton]
  simp only [List.getD, List.getElem?_eq_getElem h, Option.getD_some]

set_option maxRecDepth 100000 in
set_option maxHeartbeats 1000000 in
theorem laid_core (a : Option Addr) (c : Nat) (l : List Ent) (w : World) (h : RdE w (.slice a l.length c) l) (hS : Seg l) :
    Calls Tryz.prog 103 #[.slice a l.length c] w fun e w' => e = .returned (.string (strOfNums (pk l))) ∧ Below w.heap.size w w' := by
  have HR := hide h
  have HS := hide hS
  have h64 := hS.2.1
  have h1 := hS.1
  have HBL := hide (body_len hS)
  have HBT := hide (body_bts l hS.2.1)
  clear h hS
  generalize hn : l.length = n at *
  have HN := hide hn
  have hhd : Hid (hd l = num l.length 2 ++ (l.map ent).flatten) := rfl
  rw [hn] at hhd
  clear hn
  go_enter Tryz.func103, Tryz.ntmps103
  go_wp2_with (first | (go_at_call 165; refine (refBytes_any (n : Int) 2 _ (by omega) (by omega) (by omega)).mono ?_; rintro e w1 ⟨rfl, hb1⟩; have HB1 := hide hb1; clear hb1))
  go_loopw [3, 4, 5] (fun sv av i wr => ∃ (k : Nat) (m : List ByteArray), k ≤ n ∧ i = .int .i64 k ∧ sv = .string (strOfNums (num n 2 ++ ((l.take k).map ent).flatten)) ∧ Below w.heap.size w wr ∧ Rd wr av m ∧ m.Pairwise ltS ∧ (∀ x, x ∈ m ↔ x ∈ wsTo l k) ∧ m.length ≤ 61 * k) (fun _ _ i _ => n - (intOf i).toNat)
  case atStart => exact ⟨0, [], Nat.zero_le _, rfl, by simp, HB1.out, ⟨none, 0, rfl, Nat.le_refl _, by unfold maxLen; omega, fun _ => rfl, Or.inl rfl⟩, List.Pairwise.nil, fun x => by simp [wsTo], Nat.zero_le _⟩
  case round =>
    obtain ⟨k, m, hk, rfl, rfl, hb, hrd, hup, hall, hml⟩ := hrel
    by_cases hlt : k < n
    · obtain ⟨b, o, rfl, hblt, c0, c1, c2⟩ := rdE_at HR.out k (by rw [HN.out]; exact hlt)
      have c0' := (hb.cell (p := ⟨b, o + k * 3, none⟩) hblt).trans c0
      have c1' := (hb.cell (p := ⟨b, o + k * 3 + 1, none⟩) hblt).trans c1
      have c2' := (hb.cell (p := ⟨b, o + k * 3 + 2, none⟩) hblt).trans c2
      have hie : isE (l.getD k e0) = true := seg_ent HS.out _ (by rw [List.getD, List.getElem?_eq_getElem (by rw [HN.out]; exact hlt)]; exact List.getElem_mem _)
      have HTK := hide (ents_take (l := l) (k := k) (by rw [HN.out]; exact hlt))
      have HWS := hide (wsTo_succ (l := l) (k := k) (by rw [HN.out]; exact hlt))
      have hl1 : (num n 2 ++ ((l.take k).map ent).flatten).length ≤ 524288 := by
        have q1 := ents_len (l.take k) (fun e he => seg_text HS.out e (List.mem_of_mem_take he))
        rw [List.length_append, num_len]
        rw [List.length_take] at q1
        omega
      have HSS : Hid (num n 2 ++ ((l.take (k + 1)).map ent).flatten = (num n 2 ++ ((l.take k).map ent).flatten) ++ ent (l.getD k e0)) := by show _ = _; rw [HTK.out, ← List.append_assoc]
      generalize num n 2 ++ ((l.take k).map ent).flatten = S at *
      generalize l.getD k e0 = e at *
      obtain ⟨s, t, x⟩ := e
      obtain ⟨y0, y1, y2, y3, y4⟩ := isE_yes hie
      simp only at c0' c1' c2'
      have HB := hide hb
      have HRD := hide hrd
      have HU := hide hup
      have HA := hide hall
      clear hb hrd hup hall c0 c1 c2 hie
      have d0 := cell_regrown c0'
      have d1 := cell_regrown c1'
      have d2 := cell_regrown c2'
      have N1 := hide (calls_num8 s (by omega) (by omega) wr)
      have N2 := hide (calls_num8 t (by omega) (by omega) wr)
      have N3 := hide (calls_num1 (x.size : Int) (by omega) (by omega) wr)
      have a1 := fun w => add_at S (num s 8) w (by rw [num_len]; omega)
      have a2 := fun w => add_at (S ++ num s 8) (num t 8) w (by simp only [List.length_append, num_len]; omega)
      have a3 := fun w => add_at (S ++ num s 8 ++ num t 8) (num (x.size : Int) 1) w (by simp only [List.length_append, num_len]; omega)
      have a4 := fun w => add_at (S ++ num s 8 ++ num t 8 ++ num (x.size : Int) 1) (tb x) w (by simp only [List.length_append, num_len, tb_len]; omega)
      rw [of_tb] at a4
      have HFS : Hid (S ++ ent ⟨s, t, x⟩ = S ++ num s 8 ++ num t 8 ++ num (x.size : Int) 1 ++ tb x) := by
        show _ = _
        rw [num1]
        unfold ent
        simp only [List.append_assoc, List.singleton_append]
      clear c0' c1' c2' HTK
      generalize hS4 : strOfNums (S ++ num s 8 ++ num t 8 ++ num (x.size : Int) 1 ++ tb x) = S4 at *
      generalize hS3 : strOfNums (S ++ num s 8 ++ num t 8 ++ num (x.size : Int) 1) = S3 at *
      generalize hS2 : strOfNums (S ++ num s 8 ++ num t 8) = S2 at *
      generalize hS1 : strOfNums (S ++ num s 8) = S1 at *
      generalize hS0 : strOfNums S = S0 at *
      generalize hB1 : strOfNums (num s 8) = B1 at *
      generalize hB2 : strOfNums (num t 8) = B2 at *
      generalize hB3 : strOfNums (num (x.size : Int) 1) = B3 at *
      have HS4 := hide hS4
      clear hS4 hS3 hS2 hS1 hS0 hB1 hB2 hB3
      go_wp2
      refine wp_region_quiet_below (by kernel_rfl) (by kernel_rfl) ?_
      repeat (go_big_quiet_step (first | (go_at_call_of 165 (Value.int IntKind.i64 s); exact N1.out _ _) | (go_at_call_of 165 (Value.int IntKind.i64 t); exact N2.out _ _) | (go_at_call_of 165 (Value.int IntKind.i64 (x.size : Int)); exact N3.out _ _)))
      refine wpQuiet_nil ?_
      intro _ hw'
      obtain ⟨⟨dq, osq⟩, hw''⟩ := hw'
      subst hw''
      have e2 := d2 dq osq
      have HB2 := hide (below_regrown wr dq osq)
      have HR2 := hide (HRD.out.below HB2.out)
      clear d0 d1 d2 N1 N2 N3 a1 a2 a3 a4
      generalize Sort.grow (redrawn wr dq) osq = w2 at *
      have hxl := wd_len x
      have HB20 := hide (HB.out.trans (HB2.out.mono HB.out.size))
      go_wp2_with (first | (go_at_call 109; refine (refWords_any x _ (by omega)).mono ?_; rintro e w3 ⟨v3, rfl, hb3, hr3⟩; have HB3 := hide hb3; have HX := hide hr3; clear hb3 hr3))
      obtain ⟨xa, xc, rfl, hxc, hxm⟩ := rd_len HX.out
      unfold maxLen at hxm
      have HR3 := hide (HR2.out.below HB3.out)
      have HB30 := hide (HB20.out.trans (HB3.out.mono HB20.out.size))
      generalize hL : wd x = X at *
      generalize hXn : X.length = xn at *
      have HXN := hide hXn
      clear hXn hL
      go_loopw [4, 7] (fun av i wr => ∃ (j : Nat) (m' : List ByteArray), j ≤ xn ∧ i = .int .i64 j ∧ Below w3.heap.size w3 wr ∧ Rd wr av m' ∧ m'.Pairwise ltS ∧ (∀ z, z ∈ m' ↔ z ∈ m ∨ z ∈ X.take j) ∧ m'.length ≤ 61 * k + j) (fun _ i _ => xn - (intOf i).toNat)
      case atStart => exact ⟨0, m, Nat.zero_le _, rfl, Below.refl _ _, HR3.out, HU.out, fun z => by simp, by omega⟩
      case round =>
        obtain ⟨j, m', hj, rfl, hb4, hr4, hu4, ha4, hl4⟩ := hrel
        by_cases hjlt : j < xn
        · obtain ⟨b4, o4, rfl, hblt4, hcell4⟩ := rd_at (HX.out.below hb4) j (by rw [HXN.out]; exact hjlt)
          have HTM := hide (fun z => take_mem (l := X) (k := j) (by rw [HXN.out]; exact hjlt) z)
          generalize X.getD j ByteArray.empty = y at *
          have CP := hide (putText_any y hr4 (by omega))
          have hpl := putS_len y m'
          have HB4 := hide hb4
          have HU4 := hide (putS_up y m' hu4)
          have HA4 : Hid (∀ z, z ∈ putS y m' ↔ z ∈ m ∨ z ∈ X.take (j + 1)) := by
            intro z
            rw [putS_mem, ha4 z, HTM.out z]
            constructor
            · rintro (q | q | q)
              · exact Or.inr (Or.inr q)
              · exact Or.inl q
              · exact Or.inr (Or.inl q)
            · rintro (q | q | q)
              · exact Or.inr (Or.inl q)
              · exact Or.inr (Or.inr q)
              · exact Or.inl q
          obtain ⟨ma, mc, rfl, _, _⟩ := rd_len hr4
          clear hb4 hu4 ha4 hr4
          go_wp2_with (first | (go_at_call 166; refine CP.out.mono ?_; rintro e w5 ⟨v5, rfl, hb5, hr5⟩; have HB5 := hide hb5; have HR5 := hide hr5; clear hb5 hr5))
          go_roundw
          case rel => exact ⟨j + 1, putS y m', by omega, by go_num, HB4.out.trans (HB5.out.mono HB4.out.size), HR5.out, HU4.out, HA4.out, by omega⟩
          case measure => simp [intOf]; omega
        · have hje : j = xn := by omega
          have HA4 : Hid (∀ z, z ∈ m' ↔ z ∈ wsTo l (k + 1)) := by
            intro z
            rw [ha4 z, List.take_of_length_le (by rw [HXN.out]; omega), HWS.out, List.mem_append, HA.out z]
          have HB4 := hide (HB30.out.trans (hb4.mono HB30.out.size))
          have HR4 := hide hr4
          have HU4 := hide hu4
          clear hb4 hr4 hu4 ha4
          go_wp2
          go_roundw
          case rel => exact ⟨k + 1, m', by omega, by go_num, by rw [HSS.out, HFS.out, HS4.out], HB4.out, HR4.out, HU4.out, HA4.out, by omega⟩
          case measure => simp [intOf]; omega
    · have hke : k = n := by omega
      subst hke
      have hfull : (l.take k) = l := List.take_of_length_le (by rw [HN.out]; exact Nat.le_refl _)
      have hmw : m = mw l := by
        refine mergedS_ext hup (fun x => ?_)
        rw [hall x]
        unfold wsTo ws
        rw [hfull]
      subst hmw
      rw [hfull, ← hhd.out]
      have HBY := hide (body_by l)
      have hmlen := hml
      have HRD := hide hrd
      have HB := hide hb
      obtain ⟨ma, mc, rfl, hmc, hmm⟩ := rd_len hrd
      unfold maxLen at hmm
      have HMS := hide (fun x (hx : x ∈ mw l) => mw_size l (seg_text HS.out) hx)
      generalize hmn : (mw l).length = mn at *
      have HMN := hide hmn
      have hbl : (hd l).length + 2 + (idxBy (mw l) (ws l)).length ≤ 500000 := by
        have := HBL.out
        rw [HBY.out] at this
        simp only [List.length_append, num_len] at this
        omega
      have ha0 := fun w => add_at (hd l) (num (mn : Int) 2) w (by rw [num_len]; omega)
      have HT0 : Hid ((hd l ++ num (mn : Int) 2).length = (hd l).length + 2) := by show _ = _; rw [List.length_append, num_len]
      have HBY2 : Hid (body l = (hd l ++ num (mn : Int) 2) ++ idxBy (mw l) (ws l)) := by show _ = _; rw [HBY.out, List.append_assoc]
      clear hmn hup hall hrd hb hfull HBY
      generalize hd l ++ num (mn : Int) 2 = T0 at *
      generalize strOfNums (hd l) = H0 at *
      go_wp2_with (first | (go_at_call 165; refine (refBytes_any (mn : Int) 2 _ (by omega) (by omega) (by omega)).mono ?_; rintro e w4 ⟨rfl, hb4⟩; have HB4 := hide hb4; clear hb4))
      clear ha0
      have HB40 := hide (HB.out.trans (HB4.out.mono HB.out.size))
      have HRD4 := hide (HRD.out.below HB4.out)
      have HR4 := hide (HR.out.below HB40.out)
      go_loopw [3, 8] (fun sv i wr => ∃ q : Nat, q ≤ mn ∧ i = .int .i64 q ∧ sv = .string (strOfNums (T0 ++ idxBy ((mw l).take q) (ws l))) ∧ Below w4.heap.size w4 wr) (fun _ i _ => mn - (intOf i).toNat)
      case atStart => exact ⟨0, Nat.zero_le _, rfl, by simp [idxBy], Below.refl _ _⟩
      case round =>
        obtain ⟨q, hq, rfl, rfl, hb5⟩ := hrel
        have hil := idxBy_le l (mw l) q
        by_cases hqlt : q < mn
        · obtain ⟨b4, o4, rfl, hblt4, hcell4⟩ := rd_at HRD4.out q (by rw [HMN.out]; exact hqlt)
          have hcell5 := (hb5.cell (p := ⟨b4, o4 + q, none⟩) hblt4).trans hcell4
          have HIT := hide (idxBy_take (l := l) (W := mw l) (k := q) (by rw [HMN.out]; exact hqlt))
          have hysz := HMS.out ((mw l).getD q ByteArray.empty) (by rw [List.getD, List.getElem?_eq_getElem (by rw [HMN.out]; exact hqlt)]; exact List.getElem_mem _)
          have hone : Hid (idxOne l ((mw l).getD q ByteArray.empty) = ((((mw l).getD q ByteArray.empty).size : Int) % 256 :: tb ((mw l).getD q ByteArray.empty)) ++ ((((hasUp l ((mw l).getD q ByteArray.empty) k).length : Int) % 256) :: hasUp l ((mw l).getD q ByteArray.empty) k)) := by show _ = _; unfold idxOne; rw [HN.out]
          have HSL : Hid ((T0 ++ idxBy ((mw l).take q) (ws l)).length ≤ 500000) := by show _ ≤ _; rw [List.length_append, HT0.out]; omega
          have HNX : Hid (T0 ++ idxBy ((mw l).take (q + 1)) (ws l) = (T0 ++ idxBy ((mw l).take q) (ws l)) ++ idxOne l ((mw l).getD q ByteArray.empty)) := by show _ = _; rw [HIT.out, List.append_assoc]
          generalize T0 ++ idxBy ((mw l).take q) (ws l) = S at *
          generalize (mw l).getD q ByteArray.empty = y at *
          generalize hS0 : strOfNums S = S0 at *
          have HS0 := hide hS0
          have HB5 := hide hb5
          have HR5 := hide (HR4.out.below hb5)
          clear hb5 hS0 HIT hcell4 hil
          go_wp2_with fail
          go_loopw [9, 10, 11] (fun nv tv i wr' => ∃ j : Nat, j ≤ k ∧ i = .int .i64 j ∧ nv = .int .i64 ((hasUp l y j).length : Int) ∧ tv = .string (strOfNums (hasUp l y j)) ∧ Below wr.heap.size wr wr') (fun _ _ i _ => k - (intOf i).toNat)
          case atStart => exact ⟨0, Nat.zero_le _, rfl, by simp [hasUp], by simp [hasUp, strOfNums], Below.refl _ _⟩
          case round =>
            obtain ⟨j, hj, rfl, rfl, rfl, hb6⟩ := hrel
            have hul := hasUp_len l y j
            have hcell6 := (hb6.cell (p := ⟨b4, o4 + q, none⟩) (World.block_lt_of_cell? _ _ hcell5)).trans hcell5
            by_cases hjlt : j < k
            · obtain ⟨b, o, rfl, hblt, _, _, c2⟩ := rdE_at (HR5.out.below hb6) j (by rw [HN.out]; exact hjlt)
              have hxs : (l.getD j e0).text.size ≤ 60 := seg_text HS.out _ (by rw [List.getD, List.getElem?_eq_getElem (by rw [HN.out]; exact hjlt)]; exact List.getElem_mem _)
              have HNO := hide (fun h => hasUp_no (l := l) (x := y) (k := j) h)
              have HYES := hide (fun h => hasUp_yes (l := l) (x := y) (k := j) h)
              generalize (l.getD j e0).text = x at *
              have CH0 := refHas_any x y
              generalize memD y (wd x) = hb at *
              have CH := hide (fun d os => Calls.regrown_of (w := wr) (d := d) (os := os) (CH0 _ (by omega)))
              have HB6 := hide hb6
              have d1 := cell_regrown hcell6
              have d2 := cell_regrown c2
              clear CH0 hb6 hcell6 c2
              go_wp2
              refine wp_region_quiet_below (by kernel_rfl) (by kernel_rfl) ?_
              repeat (go_big_quiet_step (first | (go_at_call 167; exact CH.out _ _)))
              refine wpQuiet_nil ?_
              intro _ hw'
              obtain ⟨⟨dq, osq⟩, hw''⟩ := hw'
              subst hw''
              have HB7 := hide (HB6.out.trans ((below_regrown wr dq osq).mono HB6.out.size))
              clear d1 d2 CH
              generalize Sort.grow (redrawn wr dq) osq = w7 at *
              cases hb with
              | false =>
                have hno := HNO.out rfl
                go_wp2
                go_roundw
                case rel => exact ⟨j + 1, by omega, by go_num, by rw [hno], by rw [hno], HB7.out⟩
                case measure => simp [intOf]; omega
              | true =>
                have HYS := hide (HYES.out rfl)
                have ha1 := fun w => add_at (hasUp l y j) [(j : Int)] w (by simp; omega)
                have HN1 : Hid (num (j : Int) 1 = [(j : Int)]) := by show _ = _; rw [num1, Int.emod_eq_of_lt (by omega) (by omega)]
                generalize hasUp l y j = U at *
                go_wp2_with (first | (go_at_call 165; refine (refBytes_any (j : Int) 1 _ (by omega) (by omega) (by omega)).mono ?_; rintro e w8 ⟨rfl, hb8⟩; have HB8 := hide hb8; clear hb8; rw [HN1.out]))
                go_roundw
                case rel => exact ⟨j + 1, by omega, by go_num, by rw [HYS.out, List.length_append, List.length_singleton]; go_num, by rw [HYS.out], HB7.out.trans (HB8.out.mono HB7.out.size)⟩
                case measure => simp [intOf]; omega
            · have hje : j = k := by omega
              subst hje
              have HB6 := hide hb6
              clear hb6
              generalize hasUp l y j = U at *
              generalize hun : U.length = un at *
              have HUN := hide hun
              have HFS : Hid (S ++ idxOne l y = S ++ num (y.size : Int) 1 ++ tb y ++ num (un : Int) 1 ++ U) := by
                show _ = _
                rw [hone.out, num1, num1]
                simp only [List.append_assoc, List.nil_append, List.cons_append]
              have N1 := hide (calls_num1 (y.size : Int) (by omega) (by omega) wr)
              have N2 := hide (calls_num1 (un : Int) (by omega) (by omega) wr)
              have hsl := HSL.out
              have a1 := fun w => add_at S (num (y.size : Int) 1) w (by rw [num_len]; omega)
              have a2 := fun w => add_at (S ++ num (y.size : Int) 1) (tb y) w (by simp only [List.length_append, num_len, tb_len]; omega)
              have a3 := fun w => add_at (S ++ num (y.size : Int) 1 ++ tb y) (num (un : Int) 1) w (by simp only [List.length_append, num_len, tb_len]; omega)
              have a4 := fun w => add_at (S ++ num (y.size : Int) 1 ++ tb y ++ num (un : Int) 1) U w (by simp only [List.length_append, num_len, tb_len]; omega)
              rw [of_tb] at a2
              have d1 := cell_regrown hcell6
              clear hcell6 hun
              rw [HS0.out] at a1
              generalize hS4 : strOfNums (S ++ num (y.size : Int) 1 ++ tb y ++ num (un : Int) 1 ++ U) = S4 at *
              generalize hS3 : strOfNums (S ++ num (y.size : Int) 1 ++ tb y ++ num (un : Int) 1) = S3 at *
              generalize hS2 : strOfNums (S ++ num (y.size : Int) 1 ++ tb y) = S2 at *
              generalize hS1 : strOfNums (S ++ num (y.size : Int) 1) = S1 at *
              generalize hB1 : strOfNums (num (y.size : Int) 1) = B1 at *
              generalize hB2 : strOfNums (num (un : Int) 1) = B2 at *
              generalize hB3 : strOfNums U = B3 at *
              have HS4 := hide hS4
              clear hS4 hS3 hS2 hS1 hB1 hB2 hB3
              go_wp2
              refine wp_region_quiet_below (by kernel_rfl) (by kernel_rfl) ?_
              repeat (go_big_quiet_step (first | (go_at_call_of 165 (Value.int IntKind.i64 (y.size : Int)); exact N1.out _ _) | (go_at_call_of 165 (Value.int IntKind.i64 (un : Int)); exact N2.out _ _)))
              refine wpQuiet_nil ?_
              intro _ hw'
              obtain ⟨⟨dq, osq⟩, hw''⟩ := hw'
              subst hw''
              have HB7 := hide (HB5.out.trans ((HB6.out.trans ((below_regrown wr dq osq).mono HB6.out.size)).mono HB5.out.size))
              clear d1 N1 N2 a1 a2 a3 a4
              generalize Sort.grow (redrawn wr dq) osq = w7 at *
              go_wp2
              go_roundw
              case rel => exact ⟨q + 1, by omega, by go_num, by rw [HNX.out, HFS.out, HS4.out], HB7.out⟩
              case measure => simp [intOf]; omega
        · have hqe : q = mn := by omega
          subst hqe
          rw [List.take_of_length_le (by rw [HMN.out]; exact Nat.le_refl _), ← HBY2.out]
          have hpk : Hid (pk l = body l ++ num (sumv (body l)) 4) := rfl
          have hbl2 := HBL.out
          have hsv := sumv_bd (body l)
          have hsz : (strOfNums (body l)).size ≤ 1048576 := by rw [size_nums]; omega
          have CS := hide (refSum_any (strOfNums (body l)) wr hsz)
          rw [tb_of HBT.out] at CS
          have ha1 := fun w => add_at (body l) (num (sumv (body l)) 4) w (by rw [num_len]; omega)
          rw [← hpk.out] at ha1
          have HB5 := hide hb5
          clear hb5 hsz
          generalize sumv (body l) = sv at *
          generalize strOfNums (body l) = BS at *
          go_wp2_with (first | (go_at_call 168; refine CS.out.mono ?_; rintro e w' ⟨rfl, hw⟩; rw [hw]; clear hw w') | (go_at_call 165; refine (refBytes_any sv 4 _ (by omega) (by omega) (by omega)).mono ?_; rintro e w8 ⟨rfl, hb8⟩; have HB8 := hide hb8; clear hb8))
          go_ret
          exact ⟨rfl, HB40.out.trans ((HB5.out.trans (HB8.out.mono HB5.out.size)).mono HB40.out.size)⟩
end Go.Proofs.YtkncboinfcnklaaGreatDoor
