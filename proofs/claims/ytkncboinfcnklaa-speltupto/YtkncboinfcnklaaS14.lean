import Derived.Test.YtkncboinfcnklaaS13
namespace Go.Proofs.Ytkncboinfcnklaa.Str
open Go.RowKit Go.Deep Go.Proofs.Ytkncboinfcnklaa.Mth

theorem rdL_two {w : World} {va vb : Value} {A B : List ByteArray} (hA : Rd w va A) (hB : Rd w vb B) : RdL (w.alloc (.cells #[va, vb] 36)) (.slice (some ⟨w.heap.size, 0, none⟩) 2 2) [A, B] := by
  have b := below_alloc w (.cells #[va, vb] 36)
  refine ⟨_, 2, rfl, by simp, by unfold maxLen; omega, Or.inr ⟨w.heap.size, 0, rfl, fun i hi => ?_⟩⟩
  match i, hi with
  | 0, _ => exact ⟨va, by simp, by simpa using hA.below b⟩
  | 1, _ => exact ⟨vb, by simp, by simpa using hB.below b⟩

theorem common_any {va vb : Value} {A B : List ByteArray} {w : World} (hA : Rd w va A) (hB : Rd w vb B) (hbA : A.length ≤ 1048576) (hbB : B.length ≤ 1048576) :
    Calls Try.prog 15 #[va, vb] w fun e w' => ∃ v', e = .returned v' ∧ Below w.heap.size w w' ∧ Rd w' v' ((mergedS A).filter (fun z => memD z (mergedS B))) := common_core va vb A B w hA hB hbA hbB _ rfl

/-- What the lists hold. -/
structure Facts (A B M F : List ByteArray) : Prop where
  upM : M.Pairwise ltS
  memM : ∀ x, x ∈ M ↔ x ∈ A ++ B
  upF : F.Pairwise ltS
  memF : ∀ x, x ∈ F ↔ x ∈ A ∧ x ∈ B
  lenM : M.length ≤ (A ++ B).length

theorem facts (A B : List ByteArray) : Facts A B (mergedS (A ++ B)) ((mergedS A).filter (fun z => memD z (mergedS B))) :=
  ⟨(mergedS_up _).1, (mergedS_up _).2, List.Pairwise.filter _ (mergedS_up A).1, fun x => by simp [(mergedS_up A).2, (mergedS_up B).2], mergedS_len _⟩

/-- Memory between the rounds: what was read stays; the set has just these. -/
structure Held (w0 w : World) (sb : Nat) (va vb vm vc : Value) (A B M F : List ByteArray) : Prop where
  a : Rd w va A
  b : Rd w vb B
  m : Rd w vm M
  c : Rd w vc F
  low : Below w0.heap.size w0 w

theorem Held.step {w0 w w' : World} {sb : Nat} {va vb vm vc : Value} {A B M F : List ByteArray} (h : Held w0 w sb va vb vm vc A B M F) (hb : Below w.heap.size w w') : Held w0 w' sb va vb vm vc A B M F :=
  ⟨h.a.below hb, h.b.below hb, h.m.below hb, h.c.below hb, h.low.trans (hb.mono h.low.size)⟩

theorem below_drewN (w : World) (n : Nat) : Below w.heap.size w (w.drewN n) := ⟨rfl, rfl, rfl, Nat.le_refl _, fun _ _ => rfl⟩

/-- Between two rounds of the first loop. -/
structure Upto (w3 wr : World) (L : List ByteArray) (k : Nat) (T : BT ByteArray) : Prop where
  set : SetAt wr w3.heap.size T
  mem : ∀ y, y ∈ lst T ↔ y ∈ L.take k
  len : (lst T).length ≤ k
  low : Below w3.heap.size w3 wr

theorem upto_add {w3 wr : World} {L : List ByteArray} {k : Nat} {T : BT ByteArray} (h : Upto w3 wr L k T) (hk : k < L.length) (hb : L.length ≤ 1048576) {x : ByteArray} (hx : x = L.getD k ByteArray.empty) {t : Bool} (ht : t = memD x (lst T)) :
    Calls Try.prog 17 #[.pointer (some ⟨w3.heap.size, 0, none⟩), .string x] wr fun e w' => e = .returned (.bool (!t)) ∧ ∃ T2, Upto w3 w' L (k + 1) T2 ∧ (lst T2).length = (lst T).length + (if t = true then 0 else 1) := by
  refine (add_any w3.heap.size T x wr h.set (by have := h.len; omega)).mono ?_
  rintro e w' ⟨rfl, T2, hs, hg, h1, h2⟩
  have hlow : Below w3.heap.size w3 w' := h.low.grown hg h.low.size (fun j hj => by injection hj with hj; omega)
  refine ⟨by rw [ht], T2, ⟨hs, ?_, ?_, hlow⟩, ?_⟩
  · intro y
    rw [mem_take_succ hk, ← hx]
    by_cases c : x ∈ lst T
    · rw [h1 c, h.mem]
      constructor
      · intro hy; exact Or.inl hy
      · rintro (hy | hy)
        · exact hy
        · rw [← hy]; exact (h.mem x).1 c
    · rw [(h2 c).2.1 y, h.mem]
      constructor
      · rintro (hy | hy)
        · exact Or.inr hy.symm
        · exact Or.inl hy
      · rintro (hy | hy)
        · exact Or.inr hy
        · exact Or.inl hy.symm
  · have := h.len
    by_cases c : x ∈ lst T
    · rw [h1 c]; omega
    · rw [(h2 c).2.2]; omega
  · by_cases c : x ∈ lst T
    · rw [h1 c, ht]; simp [c]
    · rw [(h2 c).2.2, ht]; simp [c]

theorem get_app_left {A B : List ByteArray} {k : Nat} (h : k < A.length) : (A ++ B).getD k ByteArray.empty = A.getD k ByteArray.empty := by
  simp [List.getD, List.getElem?_append_left h]
theorem get_app_right {A B : List ByteArray} {k : Nat} (h : A.length ≤ k) : (A ++ B).getD k ByteArray.empty = B.getD (k - A.length) ByteArray.empty := by
  simp [List.getD, List.getElem?_append_right h]
theorem get_mem {L : List ByteArray} {k : Nat} (h : k < L.length) : L.getD k ByteArray.empty ∈ L := by
  simp [List.getD, h]

theorem rd_at {w : World} {a : Option Addr} {n c : Nat} {l : List ByteArray} (h : Rd w (.slice a n c) l) (j : Nat) (hj : j < l.length) : ∃ b o, a = some ⟨b, o, none⟩ ∧ n = l.length ∧ w.cell? ⟨b, o + j, none⟩ = some (.string (l.getD j ByteArray.empty)) := by
  obtain ⟨a', c', e, hc, hm, _, h⟩ := h
  injection e with e1 e2 e3
  rcases h with h | ⟨b, o, e4, h⟩
  · subst h; simp at hj
  · exact ⟨b, o, e1.trans e4, e2, h j hj⟩

theorem setAt_below {w w' : World} {sb : Nat} {T : BT ByteArray} (h : SetAt w sb T) (hb : Below w.heap.size w w') : SetAt w' sb T := by
  obtain ⟨h1, h2, h3, h4⟩ := h
  have hlt : sb < w.heap.size := World.block_lt_of_cell? _ _ h1
  exact ⟨(hb.cell (p := ⟨sb, 0, none⟩) hlt).trans h1, (hb.frozen (p := ⟨sb, 0, none⟩) hlt).trans h2, InT.below hb h3, h4⟩

theorem btw_take {lo hi : ByteArray} {M : List ByteArray} {i : Nat} (h : i < M.length) : btw ltS lo hi (M.take (i + 1)) = btw ltS lo hi (M.take i) ++ (if ¬ ltS (M.getD i ByteArray.empty) lo ∧ ¬ ltS hi (M.getD i ByteArray.empty) then [M.getD i ByteArray.empty] else []) := by
  have e : M.getD i ByteArray.empty = M[i] := by simp [List.getD, h]
  rw [List.take_succ_eq_append_getElem h, e, btw_node]
  simp [btw]

theorem btw_at {lo hi : ByteArray} {M : List ByteArray} {i : Nat} (h : i < M.length) (h1 : ¬ ltS (M.getD i ByteArray.empty) lo) (h2 : ¬ ltS hi (M.getD i ByteArray.empty)) :
    (btw ltS lo hi (M.take i)).length < (btw ltS lo hi M).length ∧ (btw ltS lo hi M).getD (btw ltS lo hi (M.take i)).length ByteArray.empty = M.getD i ByteArray.empty := by
  have e : M.getD i ByteArray.empty = M[i] := by simp [List.getD, h]
  have hs : M = M.take i ++ M[i] :: M.drop (i + 1) := by rw [← List.drop_eq_getElem_cons h, List.take_append_drop]
  have hb : btw ltS lo hi M = btw ltS lo hi (M.take i) ++ (M[i] :: btw ltS lo hi (M.drop (i + 1))) := by
    conv => lhs; rw [hs, btw_node]
    rw [if_pos (by rw [← e]; exact ⟨h1, h2⟩)]
    rfl
  rw [hb, e]
  constructor
  · simp
  · simp [List.getD]

theorem btw_len (lo hi : ByteArray) (M : List ByteArray) (i : Nat) : (btw ltS lo hi (M.take i)).length ≤ i := by
  unfold btw
  exact Nat.le_trans (List.length_filter_le _ _) (List.length_take_le _ _)

theorem sub_len {F M : List ByteArray} (hF : F.Pairwise ltS) (hM : M.Pairwise ltS) (h : ∀ x, x ∈ F → x ∈ M) : F.length ≤ M.length := by
  have e : F = M.filter (fun z => memD z F) := up_ext sordS.irr sordS.tr hF (List.Pairwise.filter _ hM) (fun x => by
    rw [List.mem_filter]
    constructor
    · intro hx; exact ⟨h x hx, memD_true hx⟩
    · rintro ⟨_, hx⟩; exact memD_iff.1 hx)
  rw [e]
  exact List.length_filter_le _ _

theorem up_step {M : List ByteArray} (h : M.Pairwise ltS) {k : Nat} (hk : k + 1 < M.length) : ltS (M.getD k ByteArray.empty) (M.getD (k + 1) ByteArray.empty) := by
  have := (List.pairwise_iff_getElem.1 h) k (k + 1) (by omega) hk (by omega)
  simpa [List.getD, hk, show k < M.length by omega] using this

set_option maxRecDepth 100000 in
set_option maxHeartbeats 8000000 in
theorem spelt_walk (va vb : Value) (A B : List ByteArray) (lo hi : ByteArray) (w : World) (hA : Rd w va A) (hB : Rd w vb B) (hb : A.length + B.length ≤ 1048576) :
    Calls Try.prog 4 #[va, vb, .string lo, .string hi] w fun e w' => e = .returned (.bool true) ∧ Below w.heap.size w w' := by
  have MM := hide (merge_any (rdL_two hA hB) (by simpa using hb))
  simp only [List.flatten_cons, List.flatten_nil, List.append_nil] at MM
  have FX := facts A B
  generalize hM : mergedS (A ++ B) = M at *
  generalize hFF : (mergedS A).filter (fun z => memD z (mergedS B)) = F at *
  have HFF := hide hFF
  have HM := hide hM
  have HFX := hide FX
  have HA := hide hA
  have HB := hide hB
  have lM := FX.lenM
  rw [List.length_append] at lM
  have lF : F.length ≤ M.length := sub_len FX.upF FX.upM (fun x hx => (FX.memM x).2 (List.mem_append.2 (Or.inl ((FX.memF x).1 hx).1)))
  obtain ⟨aa, ca, rfl, hca, hcma⟩ := rd_len hA
  obtain ⟨ab, cb, rfl, hcb, hcmb⟩ := rd_len hB
  unfold maxLen at hcma hcmb
  clear hA hB hM hFF FX
  go_enter Try.func4, Try.ntmps4
  go_wp2_with fail
  refine MM.out.mono ?_
  rintro e w1 ⟨vm, rfl, hc1⟩
  have b1 : Below w.heap.size w w1 := (below_alloc w _).trans (hc1.1.mono (below_alloc w _).size)
  have CM := hide (common_any (HA.out.below b1) (HB.out.below b1) (by omega) (by omega))
  rw [HFF.out] at CM
  have RM := hide (cur_rd hc1)
  have HB1 := hide b1
  clear hc1 b1 MM
  go_wp2_with fail
  refine CM.out.mono ?_
  rintro e w2 ⟨vc, rfl, b2, hc2⟩
  have HH := hide (Held.mk (sb := 0) ((HA.out.below HB1.out).below b2) ((HB.out.below HB1.out).below b2) (RM.out.below b2) hc2 (HB1.out.trans (b2.mono HB1.out.size)))
  clear b2 hc2 CM RM HB1 HA HB HFF
  obtain ⟨am, cm, rfl, hcm, hcmm⟩ := rd_len HH.out.m
  obtain ⟨ac, cc, rfl, hcc, hccm⟩ := rd_len HH.out.c
  unfold maxLen at hcmm hccm
  go_wp2_with fail
  go_loopw [11] (fun i wr => ∃ k q : Nat, k ≤ M.length ∧ i = .int .i64 (k + 1 : Nat) ∧ wr = w2.drewN q) (fun i _ => M.length - (intOf i).toNat)
  case atStart => exact ⟨0, 0, Nat.zero_le _, rfl, rfl⟩
  case round =>
    obtain ⟨k, q, hk, rfl, rfl⟩ := hrel
    have e1 : ((k + 1 : Nat) : Int) = (k : Int) + 1 := by omega
    rw [e1]
    by_cases hlt : k + 1 < M.length
    · obtain ⟨b0, o0, rfl, _, c1⟩ := rd_at HH.out.m (k + 1) hlt
      obtain ⟨b1, o1, e2, _, c0⟩ := rd_at HH.out.m k (by omega)
      injection e2 with e2
      injection e2 with e3 e4
      subst e3 e4
      have hu := up_step HFX.out.upM hlt
      generalize M.getD k ByteArray.empty = y at *
      generalize M.getD (k + 1) ByteArray.empty = z at *
      have h1 : Op.bytesLess z.toList y.toList = false := by rw [less_eq]; simp only [decide_eq_false_iff_not]; exact fun h2 => sordS.irr _ (sordS.tr _ _ _ hu h2)
      have h2 : (z.toList == y.toList) = false := by rw [eq_eq]; simp only [decide_eq_false_iff_not]; rintro rfl; exact sordS.irr _ hu
      clear hu e1
      go_wp2_with fail
      go_quiet (fail)
      go_wp2
      go_roundw
      case rel => exact ⟨k + 1, _, by omega, by go_num, rfl⟩
      case measure => simp [intOf]; omega
    · have hnk1 : ¬ (k : Int) + 1 < (M.length : Int) := by omega
      have H3 := hide (HH.out.step (below_drewN w2 q))
      clear HH e1 hlt
      generalize w2.drewN q = w3 at *
      go_wp2_with fail
      have hset : Hid (Upto w3 (w3.alloc (.cells #[.pointer none] 41)) (A ++ B) 0 (.nil : BT ByteArray)) := by
        refine ⟨⟨?_, ?_, trivial, by simp [lst]⟩, by simp [lst], by simp [lst], below_alloc w3 _⟩
        · simp [BT.ptr]
        · simp
      go_loopw [13] (fun i wr => ∃ (k : Nat) (T : BT ByteArray), k ≤ A.length + B.length ∧ i = .int .i64 k ∧ Upto w3 wr (A ++ B) k T) (fun i _ => A.length + B.length - (intOf i).toNat)
      case atStart => exact ⟨0, .nil, Nat.zero_le _, rfl, hset.out⟩
      case round =>
        clear hk hnk1
        obtain ⟨k, T, hk, rfl, hu⟩ := hrel
        have HU := hide hu
        have hln := hu.len
        clear hu hset
        by_cases hlt : k < A.length + B.length
        · have hlt' : k < (A ++ B).length := by rw [List.length_append]; exact hlt
          have hd := H3.out.step HU.out.low
          obtain ⟨x, hx⟩ : ∃ x, x = (A ++ B).getD k ByteArray.empty := ⟨_, rfl⟩
          obtain ⟨p, hp⟩ : ∃ p, p = memD x A := ⟨_, rfl⟩
          obtain ⟨q', hq⟩ : ∃ q, q = memD x B := ⟨_, rfl⟩
          obtain ⟨t, ht⟩ : ∃ t, t = memD x (lst T) := ⟨_, rfl⟩
          have hxm : x ∈ A ++ B := by rw [hx]; exact get_mem hlt'
          have cM : Hid (Calls Try.prog 16 #[.slice am M.length cm, .string x] wr fun e w' => e = .returned (.bool true) ∧ w' = wr) := by
            have := in_any x hd.m
            rwa [memD_true ((HFX.out.memM x).2 hxm)] at this
          have cA : Hid (Calls Try.prog 16 #[.slice aa A.length ca, .string x] wr fun e w' => e = .returned (.bool p) ∧ w' = wr) := by rw [hp]; exact in_any x hd.a
          have cB : Hid (Calls Try.prog 16 #[.slice ab B.length cb, .string x] wr fun e w' => e = .returned (.bool q') ∧ w' = wr) := by rw [hq]; exact in_any x hd.b
          have cC : Hid (Calls Try.prog 16 #[.slice ac F.length cc, .string x] wr fun e w' => e = .returned (.bool (p && q')) ∧ w' = wr) := by
            have := in_any x hd.c
            rwa [show memD x F = (p && q') from by rw [hp, hq, Bool.eq_iff_iff, Bool.and_eq_true, memD_iff, memD_iff, memD_iff]; exact HFX.out.memF x] at this
          have cD := hide (upto_add HU.out hlt' (by rw [List.length_append]; omega) hx ht)
          have HX := hide hx
          by_cases hka : k < A.length
          · obtain ⟨b0, o0, rfl, _, hcell⟩ := rd_at hd.a k hka
            rw [← get_app_left (B := B) hka, ← hx] at hcell
            clear hx hp hq ht hxm hd
            go_wp2_with fail
            refine cM.out.mono ?_
            rintro e w' ⟨rfl, hw⟩
            rw [hw]
            clear hw w'
            go_wp2_with fail
            refine cA.out.mono ?_
            rintro e w' ⟨rfl, hw⟩
            rw [hw]
            clear hw w'
            go_wp2_with fail
            refine cB.out.mono ?_
            rintro e w' ⟨rfl, hw⟩
            rw [hw]
            clear hw w'
            go_wp2_with fail
            refine cC.out.mono ?_
            rintro e w' ⟨rfl, hw⟩
            rw [hw]
            clear hw w'
            go_wp2_with fail
            refine cD.out.mono ?_
            rintro e w' ⟨rfl, T2, hu2, hl2⟩
            have HU2 := hide hu2
            have cH : Hid (Calls Try.prog 18 #[.pointer (some ⟨w3.heap.size, 0, none⟩), .string x] w' fun e w'' => e = .returned (.bool true) ∧ w'' = w') := by
              have := has_any _ T2 x w' hu2.set
              rwa [memD_true ((hu2.mem x).2 ((mem_take_succ hlt').2 (Or.inr HX.out.symm)))] at this
            clear hu2 hl2 cM cA cB cC cD hcell
            go_wp2_with fail
            refine cH.out.mono ?_
            rintro e w'' ⟨rfl, hw⟩
            rw [hw]
            clear hw w'' cH
            cases p <;> cases q'
            all_goals
              go_wp2
              go_roundw
              case rel => exact ⟨k + 1, T2, by omega, by go_num, HU2.out⟩
              case measure => simp [intOf]; omega
          · obtain ⟨b0, o0, rfl, _, hcell⟩ := rd_at hd.b (k - A.length) (by omega)
            rw [← get_app_right (B := B) (by omega), ← hx] at hcell
            clear hx hp hq ht hxm hd
            have hnk : ¬ (k : Int) < (A.length : Int) := by omega
            go_wp2_with fail
            refine cM.out.mono ?_
            rintro e w' ⟨rfl, hw⟩
            rw [hw]
            clear hw w'
            go_wp2_with fail
            refine cA.out.mono ?_
            rintro e w' ⟨rfl, hw⟩
            rw [hw]
            clear hw w'
            go_wp2_with fail
            refine cB.out.mono ?_
            rintro e w' ⟨rfl, hw⟩
            rw [hw]
            clear hw w'
            go_wp2_with fail
            refine cC.out.mono ?_
            rintro e w' ⟨rfl, hw⟩
            rw [hw]
            clear hw w'
            go_wp2_with fail
            refine cD.out.mono ?_
            rintro e w' ⟨rfl, T2, hu2, hl2⟩
            have HU2 := hide hu2
            have cH : Hid (Calls Try.prog 18 #[.pointer (some ⟨w3.heap.size, 0, none⟩), .string x] w' fun e w'' => e = .returned (.bool true) ∧ w'' = w') := by
              have := has_any _ T2 x w' hu2.set
              rwa [memD_true ((hu2.mem x).2 ((mem_take_succ hlt').2 (Or.inr HX.out.symm)))] at this
            clear hu2 hl2 cM cA cB cC cD hcell
            go_wp2_with fail
            refine cH.out.mono ?_
            rintro e w'' ⟨rfl, hw⟩
            rw [hw]
            clear hw w'' cH
            cases p <;> cases q'
            all_goals
              go_wp2
              go_roundw
              case rel => exact ⟨k + 1, T2, by omega, by go_num, HU2.out⟩
              case measure => simp [intOf]; omega
        · have hke : k = A.length + B.length := by omega
          have eT : lst T = M := (mergedS_ext HU.out.set.2.2.2 (fun x => by rw [HU.out.mem, List.take_of_length_le (by rw [List.length_append]; omega)])).trans HM.out
          have hd := H3.out.step HU.out.low
          have hS := HU.out.set
          have cL : Hid (Calls Try.prog 19 #[.pointer (some ⟨w3.heap.size, 0, none⟩)] wr fun e w' => e = .returned (.int .i64 M.length) ∧ w' = wr) := by
            have := len_any _ T wr hS
            rwa [eT] at this
          have cT : Hid (Calls Try.prog 20 #[.pointer (some ⟨w3.heap.size, 0, none⟩), .string lo, .string hi] wr (BetP wr (btw ltS lo hi M))) := by
            have := between_any _ T lo hi wr hS (by rw [eT]; omega)
            rwa [eT] at this
          have HD := hide hd
          have HT := hide eT
          have HS := hide hS
          have hnlt : ¬ (k : Int) < (A.length : Int) + (B.length : Int) := by omega
          have hFM : ¬ (M.length : Int) < (F.length : Int) := by omega
          clear hd eT hS HU hln hke hlt
          go_wp2_with fail
          refine cL.out.mono ?_
          rintro e w' ⟨rfl, hw⟩
          rw [hw]
          clear hw w'
          go_wp2_with fail
          refine cT.out.mono ?_
          rintro e w5 ⟨vt, rfl, hct⟩
          have R5 := cur_rd hct
          have D5 := hide (HD.out.step hct.1)
          have S5 := hide (setAt_below HS.out hct.1)
          generalize hBT : btw ltS lo hi M = BT' at *
          obtain ⟨at', ct, rfl, hcct, hcctm⟩ := rd_len R5
          have HR5 := hide R5
          have HBT := hide hBT
          have hlt : BT'.length ≤ M.length := by rw [← hBT]; unfold btw; exact List.length_filter_le _ _
          clear R5 hct HS HD cL cT hBT hnlt hFM
          go_wp2_with fail
          go_loop [22, 23] (fun kk i => ∃ j : Nat, j ≤ M.length ∧ i = .int .i64 j ∧ kk = .int .i64 (btw ltS lo hi (M.take j)).length) (fun _ i => M.length - (intOf i).toNat)
          case atStart => exact ⟨0, Nat.zero_le _, rfl, by simp [btw]⟩
          case round =>
            obtain ⟨j, hj, rfl, rfl⟩ := hrel
            by_cases hjl : j < M.length
            · have hB1 := btw_take (lo := lo) (hi := hi) hjl
              have hB2 := btw_at (lo := lo) (hi := hi) hjl
              have hB3 := btw_len lo hi M j
              have cAt := hide (at_in w3.heap.size T j w5 S5.out (by rw [HT.out]; exact hjl) (by rw [HT.out]; omega))
              rw [HT.out] at cAt
              obtain ⟨bm, om, rfl, _, hcellm⟩ := rd_at D5.out.m j hjl
              rw [HBT.out] at hB2
              generalize M.getD j ByteArray.empty = x at *
              generalize hK : (btw ltS lo hi (M.take j)).length = K at *
              have hBN : (btw ltS lo hi (M.take (j + 1))).length = K + (if ¬ ltS x lo ∧ ¬ ltS hi x then [x] else []).length := by rw [hB1, List.length_append, hK]
              have HBN := hide hBN
              clear hB1 hBN hK
              by_cases x1 : ltS x lo
              · have HX : ¬ (¬ ltS x lo ∧ ¬ ltS hi x) := fun h => h.1 x1
                rw [if_neg HX] at HBN
                have t1 : Op.bytesLess x.toList lo.toList = true := by rw [less_eq]; simpa using x1
                clear hB2 HX x1
                go_wp2_with fail
                refine cAt.out.mono ?_
                rintro e w' ⟨rfl, hw⟩
                rw [hw]
                clear hw w'
                clear cAt
                go_wp2
                go_round
                case rel => exact ⟨j + 1, by omega, by go_num, by rw [HBN.out]; go_num⟩
                case measure => simp [intOf]; omega
              · have t1 : Op.bytesLess x.toList lo.toList = false := by rw [less_eq]; simpa using x1
                rcases sordS.tri x hi with x2 | x2 | x2
                · have HX : ¬ ltS x lo ∧ ¬ ltS hi x := ⟨x1, fun h => sordS.irr _ (sordS.tr _ _ _ x2 h)⟩
                  rw [if_pos HX] at HBN
                  obtain ⟨hKlt, hKx⟩ := hB2 HX.1 HX.2
                  obtain ⟨bt, ot, rfl, _, hcellt⟩ := rd_at HR5.out K hKlt
                  rw [hKx] at hcellt
                  have hKge : ¬ (BT'.length : Int) ≤ (K : Int) := by omega
                  have t2 : Op.bytesLess x.toList hi.toList = true := by rw [less_eq]; simpa using x2
                  clear hB2 HX hKx x1 x2
                  go_wp2_with fail
                  refine cAt.out.mono ?_
                  rintro e w' ⟨rfl, hw⟩
                  rw [hw]
                  clear hw w'
                  clear cAt
                  go_wp2
                  go_round
                  case rel => exact ⟨j + 1, by omega, by go_num, by rw [HBN.out]; go_num⟩
                  case measure => simp [intOf]; omega
                · have HX : ¬ ltS x lo ∧ ¬ ltS hi x := ⟨x1, by rw [x2]; exact sordS.irr _⟩
                  rw [if_pos HX] at HBN
                  obtain ⟨hKlt, hKx⟩ := hB2 HX.1 HX.2
                  obtain ⟨bt, ot, rfl, _, hcellt⟩ := rd_at HR5.out K hKlt
                  rw [hKx] at hcellt
                  have hKge : ¬ (BT'.length : Int) ≤ (K : Int) := by omega
                  have t2 : (x.toList == hi.toList) = true := by rw [eq_eq]; simpa using x2
                  have t3 : Op.bytesLess x.toList hi.toList = false := by rw [less_eq]; simp only [decide_eq_false_iff_not]; rw [x2]; exact sordS.irr _
                  clear hB2 HX hKx x1 x2
                  go_wp2_with fail
                  refine cAt.out.mono ?_
                  rintro e w' ⟨rfl, hw⟩
                  rw [hw]
                  clear hw w'
                  clear cAt
                  go_wp2
                  go_round
                  case rel => exact ⟨j + 1, by omega, by go_num, by rw [HBN.out]; go_num⟩
                  case measure => simp [intOf]; omega
                · have HX : ¬ (¬ ltS x lo ∧ ¬ ltS hi x) := fun h => h.2 x2
                  rw [if_neg HX] at HBN
                  have t2 : Op.bytesLess x.toList hi.toList = false := by rw [less_eq]; simp only [decide_eq_false_iff_not]; exact fun h => sordS.irr _ (sordS.tr _ _ _ x2 h)
                  have t3 : (x.toList == hi.toList) = false := by rw [eq_eq]; simp only [decide_eq_false_iff_not]; rintro rfl; exact sordS.irr _ x2
                  clear hB2 HX x1 x2
                  go_wp2_with fail
                  refine cAt.out.mono ?_
                  rintro e w' ⟨rfl, hw⟩
                  rw [hw]
                  clear hw w'
                  clear cAt
                  go_wp2
                  go_round
                  case rel => exact ⟨j + 1, by omega, by go_num, by rw [HBN.out]; go_num⟩
                  case measure => simp [intOf]; omega
            · have hjm : j = M.length := by omega
              have hfull : btw ltS lo hi (M.take j) = BT' := by rw [List.take_of_length_le (by omega)]; exact HBT.out
              rw [hfull]
              have hnj : ¬ (j : Int) < (M.length : Int) := by omega
              clear hfull hjm hjl
              go_wp2
              go_ret
              exact ⟨by simp, D5.out.low⟩
end Go.Proofs.Ytkncboinfcnklaa.Str
