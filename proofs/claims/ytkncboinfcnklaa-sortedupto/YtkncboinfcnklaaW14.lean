import Derived.Test.YtkncboinfcnklaaW13
namespace Go.Proofs.Ytkncboinfcnklaa
open Go.RowKit Go.Deep Mth

theorem rdL_two {w : World} {va vb : Value} {A B : List Int} (hA : Rd w va A) (hB : Rd w vb B) : RdL (w.alloc (.cells #[va, vb] 22)) (.slice (some ⟨w.heap.size, 0, none⟩) 2 2) [A, B] := by
  have b := below_alloc w (.cells #[va, vb] 22)
  refine ⟨_, 2, rfl, by simp, by unfold maxLen; omega, Or.inr ⟨w.heap.size, 0, rfl, fun i hi => ?_⟩⟩
  match i, hi with
  | 0, _ => exact ⟨va, by simp, by simpa using hA.below b⟩
  | 1, _ => exact ⟨vb, by simp, by simpa using hB.below b⟩

theorem common_any {va vb : Value} {A B : List Int} {w : World} (hA : Rd w va A) (hB : Rd w vb B) (hbA : A.length ≤ 1048576) (hbB : B.length ≤ 1048576) :
    Calls Try.prog 6 #[va, vb] w fun e w' => ∃ v', e = .returned v' ∧ Below w.heap.size w w' ∧ Rd w' v' ((merged A).filter (fun z => decide (z ∈ merged B))) := common_core va vb A B w hA hB hbA hbB _ rfl

/-- What the lists hold. -/
structure Facts (A B M F : List Int) : Prop where
  upM : M.Pairwise (fun a b : Int => a < b)
  memM : ∀ x, x ∈ M ↔ x ∈ A ++ B
  upF : F.Pairwise (fun a b : Int => a < b)
  memF : ∀ x, x ∈ F ↔ x ∈ A ∧ x ∈ B
  lenM : M.length ≤ (A ++ B).length

theorem facts (A B : List Int) : Facts A B (merged (A ++ B)) ((merged A).filter (fun z => decide (z ∈ merged B))) :=
  ⟨(merged_up _).1, (merged_up _).2, List.Pairwise.filter _ (merged_up A).1, fun x => by simp [(merged_up A).2, (merged_up B).2], merged_len _⟩

/-- Memory between the rounds: what was read stays; the set has just these. -/
structure Held (w0 w : World) (sb : Nat) (va vb vm vc : Value) (A B M F : List Int) : Prop where
  a : Rd w va A
  b : Rd w vb B
  m : Rd w vm M
  c : Rd w vc F
  low : Below w0.heap.size w0 w

theorem Held.step {w0 w w' : World} {sb : Nat} {va vb vm vc : Value} {A B M F : List Int} (h : Held w0 w sb va vb vm vc A B M F) (hb : Below w.heap.size w w') : Held w0 w' sb va vb vm vc A B M F :=
  ⟨h.a.below hb, h.b.below hb, h.m.below hb, h.c.below hb, h.low.trans (hb.mono h.low.size)⟩

theorem below_drewN (w : World) (n : Nat) : Below w.heap.size w (w.drewN n) := ⟨rfl, rfl, rfl, Nat.le_refl _, fun _ _ => rfl⟩

/-- Between two rounds of the first loop. -/
structure Upto (w3 wr : World) (L : List Int) (k : Nat) (T : BT Int) : Prop where
  set : SetAt wr w3.heap.size T
  mem : ∀ y, y ∈ lst T ↔ y ∈ L.take k
  len : (lst T).length ≤ k
  low : Below w3.heap.size w3 wr

theorem upto_add {w3 wr : World} {L : List Int} {k : Nat} {T : BT Int} (h : Upto w3 wr L k T) (hk : k < L.length) (hb : L.length ≤ 1048576) {x : Int} (hx : x = L.getD k 0) {t : Bool} (ht : t = decide (x ∈ lst T)) :
    Calls Try.prog 10 #[.pointer (some ⟨w3.heap.size, 0, none⟩), .int .i64 x] wr fun e w' => e = .returned (.bool (!t)) ∧ ∃ T2, Upto w3 w' L (k + 1) T2 ∧ (lst T2).length = (lst T).length + (if t = true then 0 else 1) := by
  refine (add_any w3.heap.size T x wr h.set (by have := h.len; omega)).mono ?_
  rintro e w' ⟨rfl, T2, hs, hg, h1, h2⟩
  have hlow : Below w3.heap.size w3 w' := h.low.grown hg h.low.size (fun j hj => by injection hj with hj; omega)
  refine ⟨by rw [ht], T2, ⟨hs, ?_, ?_, hlow⟩, ?_⟩
  · intro y
    rw [mem_take_succ hk, ← hx]
    by_cases c : x ∈ lst T
    · rw [h1 c, h.mem]
      constructor
      · intro hy; exact Or.inl hy
      · rintro (hy | hy)
        · exact hy
        · rw [← hy]; exact (h.mem x).1 c
    · rw [(h2 c).2.1 y, h.mem]
      constructor
      · rintro (hy | hy)
        · exact Or.inr hy.symm
        · exact Or.inl hy
      · rintro (hy | hy)
        · exact Or.inr hy
        · exact Or.inl hy.symm
  · have := h.len
    by_cases c : x ∈ lst T
    · rw [h1 c]; omega
    · rw [(h2 c).2.2]; omega
  · by_cases c : x ∈ lst T
    · rw [h1 c, ht]; simp [c]
    · rw [(h2 c).2.2, ht]; simp [c]

theorem get_app_left {A B : List Int} {k : Nat} (h : k < A.length) : (A ++ B).getD k 0 = A.getD k 0 := by
  simp [List.getD, List.getElem?_append_left h]
theorem get_app_right {A B : List Int} {k : Nat} (h : A.length ≤ k) : (A ++ B).getD k 0 = B.getD (k - A.length) 0 := by
  simp [List.getD, List.getElem?_append_right h]
theorem get_mem {L : List Int} {k : Nat} (h : k < L.length) : L.getD k 0 ∈ L := by
  simp [List.getD, h]

theorem rd_at {w : World} {a : Option Addr} {n c : Nat} {l : List Int} (h : Rd w (.slice a n c) l) (j : Nat) (hj : j < l.length) : ∃ b o, a = some ⟨b, o, none⟩ ∧ n = l.length ∧ w.cell? ⟨b, o + j, none⟩ = some (.int .i64 (l.getD j 0)) := by
  obtain ⟨a', c', e, hc, hm, _, h⟩ := h
  injection e with e1 e2 e3
  rcases h with h | ⟨b, o, e4, h⟩
  · subst h; simp at hj
  · exact ⟨b, o, e1.trans e4, e2, h j hj⟩

theorem setAt_below {w w' : World} {sb : Nat} {T : BT Int} (h : SetAt w sb T) (hb : Below w.heap.size w w') : SetAt w' sb T := by
  obtain ⟨h1, h2, h3, h4⟩ := h
  have hlt : sb < w.heap.size := World.block_lt_of_cell? _ _ h1
  exact ⟨(hb.cell (p := ⟨sb, 0, none⟩) hlt).trans h1, (hb.frozen (p := ⟨sb, 0, none⟩) hlt).trans h2, InT.below hb h3, h4⟩

theorem btw_take {lo hi : Int} {M : List Int} {i : Nat} (h : i < M.length) : btw (fun a b : Int => a < b) lo hi (M.take (i + 1)) = btw (fun a b : Int => a < b) lo hi (M.take i) ++ (if ¬ M.getD i 0 < lo ∧ ¬ hi < M.getD i 0 then [M.getD i 0] else []) := by
  have e : M.getD i 0 = M[i] := by simp [List.getD, h]
  rw [List.take_succ_eq_append_getElem h, e, btw_node]
  simp [btw]

theorem btw_at {lo hi : Int} {M : List Int} {i : Nat} (h : i < M.length) (h1 : ¬ M.getD i 0 < lo) (h2 : ¬ hi < M.getD i 0) :
    (btw (fun a b : Int => a < b) lo hi (M.take i)).length < (btw (fun a b : Int => a < b) lo hi M).length ∧ (btw (fun a b : Int => a < b) lo hi M).getD (btw (fun a b : Int => a < b) lo hi (M.take i)).length 0 = M.getD i 0 := by
  have e : M.getD i 0 = M[i] := by simp [List.getD, h]
  have hs : M = M.take i ++ M[i] :: M.drop (i + 1) := by rw [← List.drop_eq_getElem_cons h, List.take_append_drop]
  have hb : btw (fun a b : Int => a < b) lo hi M = btw (fun a b : Int => a < b) lo hi (M.take i) ++ (M[i] :: btw (fun a b : Int => a < b) lo hi (M.drop (i + 1))) := by
    conv => lhs; rw [hs, btw_node]
    rw [if_pos (by rw [← e]; exact ⟨h1, h2⟩)]
    rfl
  rw [hb, e]
  constructor
  · simp
  · simp [List.getD]

theorem btw_len (lo hi : Int) (M : List Int) (i : Nat) : (btw (fun a b : Int => a < b) lo hi (M.take i)).length ≤ i := by
  unfold btw
  exact Nat.le_trans (List.length_filter_le _ _) (List.length_take_le _ _)

set_option maxRecDepth 100000 in
set_option maxHeartbeats 8000000 in
theorem sorted_walk (va vb : Value) (A B : List Int) (lo hi : Int) (w : World) (hA : Rd w va A) (hB : Rd w vb B) (hb : A.length + B.length ≤ 1048576) :
    Calls Try.prog 3 #[va, vb, .int .i64 lo, .int .i64 hi] w fun e w' => e = .returned (.bool true) ∧ Below w.heap.size w w' := by
  have MM := hide (merge_any (rdL_two hA hB) (by simpa using hb))
  simp only [List.flatten_cons, List.flatten_nil, List.append_nil] at MM
  have FX := facts A B
  generalize hM : merged (A ++ B) = M at *
  generalize hFF : (merged A).filter (fun z => decide (z ∈ merged B)) = F at *
  have HFF := hide hFF
  have HM := hide hM
  have HFX := hide FX
  have HA := hide hA
  have HB := hide hB
  have lM := FX.lenM
  rw [List.length_append] at lM
  obtain ⟨aa, ca, rfl, hca, hcma⟩ := rd_len hA
  obtain ⟨ab, cb, rfl, hcb, hcmb⟩ := rd_len hB
  unfold maxLen at hcma hcmb
  clear hA hB hM hFF FX
  go_enter Try.func3, Try.ntmps3
  go_wp2_with fail
  refine MM.out.mono ?_
  rintro e w1 ⟨vm, rfl, hc1⟩
  have b1 : Below w.heap.size w w1 := (below_alloc w _).trans (hc1.1.mono (below_alloc w _).size)
  have CM := hide (common_any (HA.out.below b1) (HB.out.below b1) (by omega) (by omega))
  rw [HFF.out] at CM
  have RM := hide (cur_rd hc1)
  have HB1 := hide b1
  clear hc1 b1 MM
  go_wp2_with fail
  refine CM.out.mono ?_
  rintro e w2 ⟨vc, rfl, b2, hc2⟩
  have HH := hide (Held.mk (sb := 0) ((HA.out.below HB1.out).below b2) ((HB.out.below HB1.out).below b2) (RM.out.below b2) hc2 (HB1.out.trans (b2.mono HB1.out.size)))
  clear b2 hc2 CM RM HB1 HA HB HFF
  go_wp2_with fail
  refine (rise_any HH.out.m HFX.out.upM).mono ?_
  rintro e w3 ⟨rfl, n1, rfl⟩
  go_wp2_with fail
  refine (rise_any (HH.out.step (below_drewN w2 n1)).c HFX.out.upF).mono ?_
  rintro e w3 ⟨rfl, n2, rfl⟩
  simp only [World.drewN_drewN]
  have H3 := hide (HH.out.step (below_drewN w2 (n1 + n2)))
  clear HH
  generalize w2.drewN (n1 + n2) = w3 at *
  go_wp2_with fail
  have hset : Hid (Upto w3 (w3.alloc (.cells #[.pointer none] 28)) (A ++ B) 0 (.nil : BT Int)) := by
    refine ⟨⟨?_, ?_, trivial, by simp [lst]⟩, by simp [lst], by simp [lst], below_alloc w3 _⟩
    · simp [BT.ptr]
    · simp
  go_loopw [14, 15] (fun mo i wr => ∃ (k : Nat) (T : BT Int), k ≤ A.length + B.length ∧ i = .int .i64 k ∧ mo = .int .i64 (lst T).length ∧ Upto w3 wr (A ++ B) k T) (fun _ i _ => A.length + B.length - (intOf i).toNat)
  case atStart => exact ⟨0, .nil, Nat.zero_le _, rfl, rfl, hset.out⟩
  case round =>
    obtain ⟨k, T, hk, rfl, rfl, hu⟩ := hrel
    have HU := hide hu
    have hln := hu.len
    clear hu hset
    by_cases hlt : k < A.length + B.length
    · have hlt' : k < (A ++ B).length := by rw [List.length_append]; exact hlt
      have hd := H3.out.step HU.out.low
      obtain ⟨x, hx⟩ : ∃ x, x = (A ++ B).getD k 0 := ⟨_, rfl⟩
      obtain ⟨p, hp⟩ : ∃ p, p = decide (x ∈ A) := ⟨_, rfl⟩
      obtain ⟨q, hq⟩ : ∃ q, q = decide (x ∈ B) := ⟨_, rfl⟩
      obtain ⟨t, ht⟩ : ∃ t, t = decide (x ∈ lst T) := ⟨_, rfl⟩
      have hxm : x ∈ A ++ B := by rw [hx]; exact get_mem hlt'
      have cM : Hid (Calls Try.prog 8 #[vm, .int .i64 x] wr fun e w' => e = .returned (.bool true) ∧ w' = wr) := by
        have := in_any x hd.m
        rwa [show decide (x ∈ M) = true from by rw [decide_eq_true_iff, HFX.out.memM]; exact hxm] at this
      have cA : Hid (Calls Try.prog 8 #[.slice aa A.length ca, .int .i64 x] wr fun e w' => e = .returned (.bool p) ∧ w' = wr) := by rw [hp]; exact in_any x hd.a
      have cB : Hid (Calls Try.prog 8 #[.slice ab B.length cb, .int .i64 x] wr fun e w' => e = .returned (.bool q) ∧ w' = wr) := by rw [hq]; exact in_any x hd.b
      have cC : Hid (Calls Try.prog 8 #[vc, .int .i64 x] wr fun e w' => e = .returned (.bool (p && q)) ∧ w' = wr) := by
        have := in_any x hd.c
        rwa [show decide (x ∈ F) = (p && q) from by rw [hp, hq, Bool.eq_iff_iff]; simp [HFX.out.memF]] at this
      have cH : Hid (Calls Try.prog 9 #[.pointer (some ⟨w3.heap.size, 0, none⟩), .int .i64 x] wr fun e w' => e = .returned (.bool t) ∧ w' = wr) := by rw [ht]; exact has_any _ T x wr HU.out.set
      have cD := hide (upto_add HU.out hlt' (by rw [List.length_append]; omega) hx ht)
      by_cases hka : k < A.length
      · obtain ⟨b0, o0, rfl, _, hcell⟩ := rd_at hd.a k hka
        rw [← get_app_left (B := B) hka, ← hx] at hcell
        clear hx hp hq ht hxm hd
        go_wp2_with fail
        refine cM.out.mono ?_
        rintro e w' ⟨rfl, hw⟩
        rw [hw]
        clear hw w'
        go_wp2_with fail
        refine cA.out.mono ?_
        rintro e w' ⟨rfl, hw⟩
        rw [hw]
        clear hw w'
        go_wp2_with fail
        refine cB.out.mono ?_
        rintro e w' ⟨rfl, hw⟩
        rw [hw]
        clear hw w'
        go_wp2_with fail
        refine cC.out.mono ?_
        rintro e w' ⟨rfl, hw⟩
        rw [hw]
        clear hw w'
        go_wp2_with fail
        refine cH.out.mono ?_
        rintro e w' ⟨rfl, hw⟩
        rw [hw]
        clear hw w'
        go_wp2_with fail
        refine cD.out.mono ?_
        rintro e w' ⟨rfl, T2, hu2, hl2⟩
        have HU2 := hide hu2
        have HL2 := hide hl2
        clear hu2 hl2 cM cA cB cC cH cD hcell
        cases p <;> cases q <;> cases t
        all_goals
          go_wp2
          go_roundw
          case rel => exact ⟨k + 1, T2, by omega, by go_num, by rw [HL2.out]; go_num, HU2.out⟩
          case measure => simp [intOf]; omega
      · obtain ⟨b0, o0, rfl, _, hcell⟩ := rd_at hd.b (k - A.length) (by omega)
        rw [← get_app_right (B := B) (by omega), ← hx] at hcell
        clear hx hp hq ht hxm hd
        have hnk : ¬ (k : Int) < (A.length : Int) := by omega
        go_wp2_with fail
        refine cM.out.mono ?_
        rintro e w' ⟨rfl, hw⟩
        rw [hw]
        clear hw w'
        go_wp2_with fail
        refine cA.out.mono ?_
        rintro e w' ⟨rfl, hw⟩
        rw [hw]
        clear hw w'
        go_wp2_with fail
        refine cB.out.mono ?_
        rintro e w' ⟨rfl, hw⟩
        rw [hw]
        clear hw w'
        go_wp2_with fail
        refine cC.out.mono ?_
        rintro e w' ⟨rfl, hw⟩
        rw [hw]
        clear hw w'
        go_wp2_with fail
        refine cH.out.mono ?_
        rintro e w' ⟨rfl, hw⟩
        rw [hw]
        clear hw w'
        go_wp2_with fail
        refine cD.out.mono ?_
        rintro e w' ⟨rfl, T2, hu2, hl2⟩
        have HU2 := hide hu2
        have HL2 := hide hl2
        clear hu2 hl2 cM cA cB cC cH cD hcell
        cases p <;> cases q <;> cases t
        all_goals
          go_wp2
          go_roundw
          case rel => exact ⟨k + 1, T2, by omega, by go_num, by rw [HL2.out]; go_num, HU2.out⟩
          case measure => simp [intOf]; omega
    · have hke : k = A.length + B.length := by omega
      have eT : lst T = M := (merged_ext HU.out.set.2.2.2 (fun x => by rw [HU.out.mem, List.take_of_length_le (by rw [List.length_append]; omega)])).trans HM.out
      have hd := H3.out.step HU.out.low
      have hS := HU.out.set
      have cL : Hid (Calls Try.prog 11 #[.pointer (some ⟨w3.heap.size, 0, none⟩)] wr fun e w' => e = .returned (.int .i64 M.length) ∧ w' = wr) := by
        have := len_any _ T wr hS
        rwa [eT] at this
      have cT : Hid (Calls Try.prog 12 #[.pointer (some ⟨w3.heap.size, 0, none⟩), .int .i64 lo, .int .i64 hi] wr (BetP wr (btw (fun a b : Int => a < b) lo hi M))) := by
        have := between_any _ T lo hi wr hS (by rw [eT]; omega)
        rwa [eT] at this
      rw [eT]
      obtain ⟨am, cm, rfl, hcm, hcmm⟩ := rd_len hd.m
      have HD := hide hd
      have HT := hide eT
      have HS := hide hS
      have hnlt : ¬ (k : Int) < (A.length : Int) + (B.length : Int) := by omega
      unfold maxLen at hcmm
      clear hd eT hS HU hln hke hlt
      go_wp2_with fail
      refine cL.out.mono ?_
      rintro e w' ⟨rfl, hw⟩
      rw [hw]
      clear hw w'
      go_wp2_with fail
      refine cT.out.mono ?_
      rintro e w5 ⟨vt, rfl, hct⟩
      have R5 := cur_rd hct
      have D5 := hide (HD.out.step hct.1)
      have S5 := hide (setAt_below HS.out hct.1)
      generalize hBT : btw (fun a b : Int => a < b) lo hi M = BT' at *
      obtain ⟨at', ct, rfl, hcct, hcctm⟩ := rd_len R5
      have HR5 := hide R5
      have HBT := hide hBT
      have hlt : BT'.length ≤ M.length := by rw [← hBT]; unfold btw; exact List.length_filter_le _ _
      clear R5 hct HS HD cL cT hBT
      go_wp2_with fail
      go_loop [25, 26] (fun kk i => ∃ j : Nat, j ≤ M.length ∧ i = .int .i64 j ∧ kk = .int .i64 (btw (fun a b : Int => a < b) lo hi (M.take j)).length) (fun _ i => M.length - (intOf i).toNat)
      case atStart => exact ⟨0, Nat.zero_le _, rfl, by simp [btw]⟩
      case round =>
        obtain ⟨j, hj, rfl, rfl⟩ := hrel
        by_cases hjl : j < M.length
        · have hmx : M.getD j 0 ∈ M := get_mem hjl
          have hB1 := btw_take (lo := lo) (hi := hi) hjl
          have hB2 := btw_at (lo := lo) (hi := hi) hjl
          have hB3 := btw_len lo hi M j
          have cAt := hide (at_in w3.heap.size T j w5 S5.out (by rw [HT.out]; exact hjl) (by rw [HT.out]; omega))
          rw [HT.out] at cAt
          obtain ⟨bm, om, rfl, _, hcellm⟩ := rd_at D5.out.m j hjl
          rw [HBT.out] at hB2
          generalize M.getD j 0 = x at *
          obtain ⟨p, hp⟩ : ∃ p, p = decide (x ∈ A) := ⟨_, rfl⟩
          obtain ⟨q, hq⟩ : ∃ q, q = decide (x ∈ B) := ⟨_, rfl⟩
          have HPQ : Hid ((p || q) = true) := by
            have := (HFX.out.memM x).1 hmx
            show (p || q) = true
            rw [hp, hq]
            simpa using this
          have cA : Hid (Calls Try.prog 8 #[.slice aa A.length ca, .int .i64 x] w5 fun e w' => e = .returned (.bool p) ∧ w' = w5) := by rw [hp]; exact in_any x D5.out.a
          have cB : Hid (Calls Try.prog 8 #[.slice ab B.length cb, .int .i64 x] w5 fun e w' => e = .returned (.bool q) ∧ w' = w5) := by rw [hq]; exact in_any x D5.out.b
          generalize hK : (btw (fun a b : Int => a < b) lo hi (M.take j)).length = K at *
          have hBN : (btw (fun a b : Int => a < b) lo hi (M.take (j + 1))).length = K + (if ¬ x < lo ∧ ¬ hi < x then [x] else []).length := by rw [hB1, List.length_append, hK]
          have HBN := hide hBN
          clear hp hq hmx hB1 hBN hK
          by_cases x1 : x < lo
          · have HX : ¬ (¬ x < lo ∧ ¬ hi < x) := fun h => h.1 x1
            rw [if_neg HX] at HBN
            clear hB2 HX
            go_wp2_with fail
            refine cAt.out.mono ?_
            rintro e w' ⟨rfl, hw⟩
            rw [hw]
            clear hw w'
            go_wp2_with fail
            refine cA.out.mono ?_
            rintro e w' ⟨rfl, hw⟩
            rw [hw]
            clear hw w'
            go_wp2_with fail
            refine cB.out.mono ?_
            rintro e w' ⟨rfl, hw⟩
            rw [hw]
            clear hw w'
            have hpq := HPQ.out
            clear cAt cA cB HPQ
            cases p <;> cases q
            case false.false => simp at hpq
            all_goals
              clear hpq
              go_wp2
              go_round
              case rel => exact ⟨j + 1, by omega, by go_num, by rw [HBN.out]; go_num⟩
              case measure => simp [intOf]; omega
          · by_cases x2 : hi < x
            · have HX : ¬ (¬ x < lo ∧ ¬ hi < x) := fun h => h.2 x2
              rw [if_neg HX] at HBN
              clear hB2 HX
              go_wp2_with fail
              refine cAt.out.mono ?_
              rintro e w' ⟨rfl, hw⟩
              rw [hw]
              clear hw w'
              go_wp2_with fail
              refine cA.out.mono ?_
              rintro e w' ⟨rfl, hw⟩
              rw [hw]
              clear hw w'
              go_wp2_with fail
              refine cB.out.mono ?_
              rintro e w' ⟨rfl, hw⟩
              rw [hw]
              clear hw w'
              have hpq := HPQ.out
              clear cAt cA cB HPQ
              cases p <;> cases q
              case false.false => simp at hpq
              all_goals
                clear hpq
                go_wp2
                go_round
                case rel => exact ⟨j + 1, by omega, by go_num, by rw [HBN.out]; go_num⟩
                case measure => simp [intOf]; omega
            · have HX : ¬ x < lo ∧ ¬ hi < x := ⟨x1, x2⟩
              rw [if_pos HX] at HBN
              obtain ⟨hKlt, hKx⟩ := hB2 x1 x2
              obtain ⟨bt, ot, rfl, _, hcellt⟩ := rd_at HR5.out K hKlt
              rw [hKx] at hcellt
              have hKge : ¬ (BT'.length : Int) ≤ (K : Int) := by omega
              clear hB2 HX hKx
              go_wp2_with fail
              refine cAt.out.mono ?_
              rintro e w' ⟨rfl, hw⟩
              rw [hw]
              clear hw w'
              go_wp2_with fail
              refine cA.out.mono ?_
              rintro e w' ⟨rfl, hw⟩
              rw [hw]
              clear hw w'
              go_wp2_with fail
              refine cB.out.mono ?_
              rintro e w' ⟨rfl, hw⟩
              rw [hw]
              clear hw w'
              have hpq := HPQ.out
              clear cAt cA cB HPQ
              cases p <;> cases q
              case false.false => simp at hpq
              all_goals
                clear hpq
                go_wp2
                go_round
                case rel => exact ⟨j + 1, by omega, by go_num, by rw [HBN.out]; go_num⟩
                case measure => simp [intOf]; omega
        · have hjm : j = M.length := by omega
          have hfull : btw (fun a b : Int => a < b) lo hi (M.take j) = BT' := by rw [List.take_of_length_le (by omega)]; exact HBT.out
          rw [hfull]
          have hnj : ¬ (j : Int) < (M.length : Int) := by omega
          have cUp := hide (at_above w3.heap.size T M.length w5 S5.out (by rw [HT.out]; exact Nat.le_refl _) (by omega))
          have cDn := hide (at_below w3.heap.size (-1) w5 (by omega))
          have cMg := hide (merge_any (v := .slice none 0 0) (Ls := []) (w := w5) ⟨none, 0, rfl, Nat.le_refl _, by unfold maxLen; omega, Or.inl rfl⟩ (by simp))
          clear hfull hjm hjl
          go_wp2_with fail
          refine cUp.out.mono ?_
          rintro e w' ⟨rfl, hw⟩
          rw [hw]
          clear hw w'
          go_wp2_with fail
          refine cDn.out.mono ?_
          rintro e w' ⟨rfl, hw⟩
          rw [hw]
          clear hw w'
          go_wp2_with fail
          refine cMg.out.mono ?_
          rintro e w6 ⟨v6, rfl, hc6⟩
          have hlow := D5.out.low.trans (hc6.1.mono D5.out.low.size)
          obtain ⟨a6, c6, rfl, _, _⟩ := rd_len (cur_rd hc6)
          have h60 : (merged ([] : List (List Int)).flatten).length = 0 := by have := merged_len ([] : List (List Int)).flatten; simpa using this
          rw [h60]
          have HLOW := hide hlow
          clear hlow hc6 h60
          go_wp2
          go_ret
          exact ⟨rfl, HLOW.out⟩
end Go.Proofs.Ytkncboinfcnklaa
