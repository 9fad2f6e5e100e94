import Derived.Test.YtkncboinfcnklabGreatDoorQ15
namespace Go.Proofs.YtkncboinfcnklabGreatDoor
open Go.RowKit Go.Deep Go.Shelf Go.Proofs.YtkncboinfcnklabGreatDoor.Mth

/-- Does an entry not go with a merging? -/
def kp (y : Int) (m : Nat) (e : Ent) : Bool := decide (y ≤ e.time) || decide ((m : Int) ≤ e.seq)
theorem flat_snoc {es : List (List Ent)} {k : Nat} (h : k < es.length) (f : Ent → Bool) : ((es.take (k + 1)).flatten).filter f = ((es.take k).flatten).filter f ++ (es.getD k []).filter f := by
  rw [take_snoc h [], List.flatten_append, List.filter_append]
  simp
theorem filter_snoc {l : List Ent} {k : Nat} (h : k < l.length) (f : Ent → Bool) : (l.take (k + 1)).filter f = (l.take k).filter f ++ (if f (l.getD k e0) then [l.getD k e0] else []) := by
  rw [take_snoc h e0, List.filter_append]
  generalize l.getD k e0 = e
  simp only [List.filter_cons, List.filter_nil]
theorem flat_take_le (es : List (List Ent)) (k : Nat) : (es.take k).flatten.length ≤ es.flatten.length := by
  have := congrArg List.length (congrArg List.flatten (List.take_append_drop k es))
  rw [List.flatten_append, List.length_append] at this
  omega

set_option maxRecDepth 100000 in
set_option maxHeartbeats 8000000 in
theorem kept_any {w : World} {ρ : Nat → Nat} {B N lb : Nat} {G : Gh} {L : Lg} (h : LogX w ρ B N lb G L) (hc : L.clock ≤ 1000000000000) (hk : L.keep ≤ 1000000) {sv : Value} {bs : List Nat} {es : List (List Ent)} (hR : RdP w sv bs) (hlen : bs.length = es.length)
    (hseg : ∀ j, j < es.length → ∃ ev mb, SegAt w B (bs.getD j 0) (es.getD j []) ev mb) (hT : es.flatten.length ≤ 1048576) :
    Calls Tryz.prog 130 #[ptrV lb, sv] w fun e w' => ∃ v m, e = .returned v ∧ Need L m ∧ CurE w w' v (es.flatten.filter (kp ((L.clock : Int) - (L.keep : Int)) m)) := by
  obtain ⟨i0, hi0, hz0, hz1, hz2⟩ := info_parts Tryz.info49
  have CY := hide (young_any h hc hk)
  have CN : Hid (∀ w1, Below w.heap.size w w1 → Calls Tryz.prog 155 #[ptrV lb] w1 fun e w' => ∃ m : Nat, e = .returned (.int .i64 (m : Int)) ∧ Need L m ∧ Below w1.heap.size w1 w') := fun w1 hb => needed_any (h.below hb)
  obtain ⟨a, c, rfl, hcc, hm, hp⟩ := hR
  have HP := hide hp
  have HS := hide hseg
  unfold maxLen at hm
  clear h hp hseg
  rw [hlen] at hcc HP ⊢
  generalize (L.clock : Int) - (L.keep : Int) = Y at *
  have HLEN := hide hlen
  clear hlen
  generalize hn : es.length = n at *
  have HN := hide hn
  clear hn
  go_enter Tryz.func130, Tryz.ntmps130
  go_wp2_with (first
    | (go_at_call 28; refine CY.out.mono ?_; rintro e w1 ⟨rfl, hb1⟩; have HB1 := hide hb1; clear hb1)
    | (go_at_call 155; refine (CN.out _ HB1.out).mono ?_; rintro e w2 ⟨m, rfl, hnd, hb2⟩; have HB2 := hide (HB1.out.trans (hb2.mono HB1.out.size)); have HND := hide hnd; clear hb2 hnd))
  go_loopw [7, 18] (fun v i wr => ∃ k : Nat, k ≤ n ∧ i = .int .i64 k ∧ CurE w wr v (((es.take k).flatten).filter (kp Y m))) (fun _ i _ => n - (intOf i).toNat)
  case atStart => exact ⟨0, Nat.zero_le _, rfl, HB2.out, World.ownsRow_nil _ _ _ _⟩
  case round =>
    obtain ⟨k, hk', rfl, hcur⟩ := hrel
    have HC := hide hcur
    clear hcur
    by_cases hlt : k < n
    · obtain ⟨ev, mb, hsg⟩ := HS.out k hlt
      have hcell : ∃ b o, a = some ⟨b, o, none⟩ ∧ wr.cell? ⟨b, o + k, none⟩ = some (ptrV (bs.getD k 0)) := by
        rcases HP.out with e | ⟨b, o, e, hq⟩
        · have := HLEN.out; rw [e] at this; simp at this; omega
        · have := hq k hlt
          exact ⟨b, o, e, (HC.out.1.cell (p := ⟨b, o + k, none⟩) (World.block_lt_of_cell? _ _ this)).trans this⟩
      obtain ⟨b, o, rfl, hcell⟩ := hcell
      have hsr := hsg.below HC.out.1
      obtain ⟨a2, c2, rfl, hc2, hm2⟩ := own_slice hsr.own
      unfold maxLen at hm2
      obtain ⟨q0, _⟩ := cell_of (j := 0) (u := .slice a2 (es.getD k []).length c2) hsr.blk rfl
      have hfs := flat_snoc (es := es) (k := k) (by rw [HN.out]; exact hlt) (kp Y m)
      have hbk : ((es.take k).flatten).length + (es.getD k []).length ≤ 1048576 := by
        have h1 := flat_take_le es (k + 1)
        rw [take_snoc (by rw [HN.out]; exact hlt) [], List.flatten_append, List.length_append] at h1
        simp only [List.flatten_cons, List.flatten_nil, List.append_nil] at h1
        omega
      have hfl : (((es.take k).flatten).filter (kp Y m)).length ≤ ((es.take k).flatten).length := List.length_filter_le _ _
      have HFS := hide hfs
      have HSG := hide hsg
      clear hfs hsr hsg
      generalize hek : es.getD k [] = ek at *
      generalize bs.getD k 0 = pb at *
      generalize hln : ek.length = ln at *
      have HLN := hide hln
      clear hln hek
      obtain ⟨L0, hL0⟩ : ∃ L0, L0 = ((es.take k).flatten).filter (kp Y m) := ⟨_, rfl⟩
      rw [← hL0] at hfl HC HFS
      clear hL0
      generalize ((es.take k).flatten).length = fl at *
      obtain ⟨va, vc, rfl, _, _⟩ := own_slice HC.out.2
      go_wp2
      go_loopw [7, 27] (fun v i wr' => ∃ j : Nat, j ≤ ln ∧ i = .int .i64 j ∧ CurE w wr' v (L0 ++ (ek.take j).filter (kp Y m))) (fun _ i _ => ln - (intOf i).toNat)
      case atStart => exact ⟨0, Nat.zero_le _, rfl, by simpa using HC.out⟩
      case round =>
        obtain ⟨j, hj, rfl, hcur2⟩ := hrel
        have HC2 := hide hcur2
        clear hcur2
        by_cases hlt2 : j < ln
        · have hsr := HSG.out.below HC2.out.1
          have ho := hsr.own
          rw [HLN.out] at ho
          obtain ⟨g, rfl⟩ := own_some ho (by omega)
          obtain ⟨e0', e1, e2⟩ := own_en ho HLN.out hlt2
          have hfs2 := filter_snoc (l := ek) (k := j) (by rw [HLN.out]; exact hlt2) (kp Y m)
          have hfl2 : ((ek.take j).filter (kp Y m)).length ≤ j := Nat.le_trans (List.length_filter_le _ _) (by simp; omega)
          have hll : (L0 ++ (ek.take j).filter (kp Y m)).length ≤ 1048576 := by rw [List.length_append]; omega
          obtain ⟨f, hf⟩ : ∃ f, f = ek.getD j e0 := ⟨_, rfl⟩
          rw [← hf] at e0' e1 e2 hfs2
          clear hf hsr ho
          obtain ⟨fs, ft, fx⟩ := f
          simp only at e0' e1 e2
          have HFS2 : Hid (L0 ++ (ek.take (j + 1)).filter (kp Y m) = (L0 ++ (ek.take j).filter (kp Y m)) ++ (if kp Y m ⟨fs, ft, fx⟩ then [⟨fs, ft, fx⟩] else [])) := by
            show _ = _
            rw [hfs2, List.append_assoc]
          clear hfs2 hfl2
          generalize L0 ++ (ek.take j).filter (kp Y m) = L1 at *
          have hsz4 := HC2.out.1.size
          obtain ⟨va2, vc2, rfl, _, _⟩ := own_slice HC2.out.2
          by_cases h1 : Y ≤ ft
          · have hkp : kp Y m ⟨fs, ft, fx⟩ = true := by unfold kp; simp [h1]
            rw [hkp] at HFS2
            clear hkp
            go_wp2_with (first | (at_builtin; refine wpList_append_own _ rfl _ _ 33 rfl w.heap.size 49 i0 (.agg #[.int .i64 0, .int .i64 0, .string ByteArray.empty]) 3 32 Tryz.underlying33 hi0 hz0 hz1 hz2 rfl (by decide) _ _ _ rfl ((HC2.out.2.alloc _).alloc _) ⟨wr.heap.size + 1, 0, none⟩ 1 1 [.int .i64 fs, .int .i64 ft, .string fx] rfl rfl (by have := cell_three_new (wr.alloc (Obj.cells #[.int .i64 fs, .int .i64 ft, .string fx] 49)) (.int .i64 fs) (.int .i64 ft) (.string fx) 49; rw [World.size_alloc] at this; exact this) (by intro u hu; simp at hu; rcases hu with rfl | rfl | rfl <;> rfl) (by unfold maxLen; omega) (by omega) (by simp; omega) ?_; intro v5 w5 hown5 hgrow5 _; have HC5 := hide (curE_append (e := ⟨fs, ft, fx⟩) (⟨HC2.out.1.trans ((below_allocG _ _).mono HC2.out.1.size), HC2.out.2.alloc _⟩ : CurE w (wr.alloc (Obj.cells #[.int .i64 fs, .int .i64 ft, .string fx] 49)) _ _) hown5 hgrow5); clear hown5 hgrow5))
            go_roundw
            case rel => exact ⟨j + 1, by omega, by go_num, by rw [HFS2.out]; exact HC5.out⟩
            case measure => simp [intOf]; omega
          · by_cases h2 : (m : Int) ≤ fs
            · have hkp : kp Y m ⟨fs, ft, fx⟩ = true := by unfold kp; simp [h2]
              rw [hkp] at HFS2
              clear hkp
              go_wp2_with (first | (at_builtin; refine wpList_append_own _ rfl _ _ 33 rfl w.heap.size 49 i0 (.agg #[.int .i64 0, .int .i64 0, .string ByteArray.empty]) 3 32 Tryz.underlying33 hi0 hz0 hz1 hz2 rfl (by decide) _ _ _ rfl ((HC2.out.2.alloc _).alloc _) ⟨wr.heap.size + 1, 0, none⟩ 1 1 [.int .i64 fs, .int .i64 ft, .string fx] rfl rfl (by have := cell_three_new (wr.alloc (Obj.cells #[.int .i64 fs, .int .i64 ft, .string fx] 49)) (.int .i64 fs) (.int .i64 ft) (.string fx) 49; rw [World.size_alloc] at this; exact this) (by intro u hu; simp at hu; rcases hu with rfl | rfl | rfl <;> rfl) (by unfold maxLen; omega) (by omega) (by simp; omega) ?_; intro v5 w5 hown5 hgrow5 _; have HC5 := hide (curE_append (e := ⟨fs, ft, fx⟩) (⟨HC2.out.1.trans ((below_allocG _ _).mono HC2.out.1.size), HC2.out.2.alloc _⟩ : CurE w (wr.alloc (Obj.cells #[.int .i64 fs, .int .i64 ft, .string fx] 49)) _ _) hown5 hgrow5); clear hown5 hgrow5))
              go_roundw
              case rel => exact ⟨j + 1, by omega, by go_num, by rw [HFS2.out]; exact HC5.out⟩
              case measure => simp [intOf]; omega
            · have hkp : kp Y m ⟨fs, ft, fx⟩ = false := by unfold kp; simp [h1, h2]
              rw [hkp] at HFS2
              clear hkp
              go_wp2
              go_roundw
              case rel => exact ⟨j + 1, by omega, by go_num, by rw [HFS2.out]; simp only [Bool.false_eq_true, if_false, List.append_nil]; exact ⟨HC2.out.1.trans ((below_allocG _ _).mono HC2.out.1.size), HC2.out.2.alloc _⟩⟩
              case measure => simp [intOf]; omega
        · have hje : j = ln := by omega
          subst hje
          have HTK : Hid (ek.take j = ek) := List.take_of_length_le (Nat.le_of_eq HLN.out)
          go_wp2
          go_roundw
          case rel => exact ⟨k + 1, by omega, by go_num, by rw [HFS.out]; have := HC2.out; rwa [HTK.out] at this⟩
          case measure => simp [intOf]; omega
    · have hke : k = n := by omega
      subst hke
      have HTK : Hid (es.take k = es) := List.take_of_length_le (Nat.le_of_eq HN.out)
      go_wp2
      go_ret
      exact ⟨_, m, rfl, HND.out, by have := HC.out; rwa [HTK.out] at this⟩
end Go.Proofs.YtkncboinfcnklabGreatDoor

namespace Go.Proofs.YtkncboinfcnklabGreatDoor
open Go.RowKit Go.Deep Go.Shelf Go.Proofs.YtkncboinfcnklabGreatDoor.Mth

/-- A new segment, that no level has yet. -/
theorem LogX.newSeg {w w' : World} {ρ : Nat → Nat} {B N lb : Nat} {G : Gh} {L : Lg} (h : LogX w ρ B N lb G L) (hB : B ≤ w.heap.size) {s mb : Nat} {es : List Ent} {ev : Value} (hn : NewSeg w w' B s es ev mb) :
    ∃ ρ', LogX w' ρ' B N lb G L ∧ (∀ k, ownS s mb ev k → ρ' k = 4) ∧ (∀ i, i < 6 → ¬ s ∈ G.bs i) ∧ LStp w w' ρ ρ' ∧ (∀ g, ρ g ≠ 0 → ρ' g = ρ g) ∧ Same w w' ρ (fun c => c = 3) := by
  have hx := h.below hn.bel
  have hk := ext_keep (P := ownS s mb ev) (c := 4) h.lt
  have xb := LHd.role (ρ := ρ) hx.b (fun g q => (hk g (by omega)).trans q)
  have xj := LJ.role (ρ := ρ) hx.j (fun g q => (hk g (by omega)).trans q)
  have xv := LV.role (ρ := ρ) hx.v (fun g q => hk g (by rcases q with q | ⟨i, _, q⟩ <;> omega))
  have xk := LW.role (ρ := ρ) hx.k (fun g q => hk g (by rcases q with q | ⟨i, _, q⟩ <;> omega))
  have xt := LT.role (ρ := ρ) hx.t (fun g q => (hk g (by omega)).trans q)
  have hlt := ext_lt (P := ownS s mb ev) (c := 4) h.lt hn.bel.size hB (fun k q => (hn.seg.ownLt q).1)
  refine ⟨_, ⟨xb, xj, xv, xk, xt, hlt⟩, fun k q => ext_new (hn.new k q) q, fun i hi hm => ?_, ⟨tch_below hn.bel, fun k hk2 e => by rw [ext_old hk2]; exact e⟩, hk, Same.below h.lt (by omega) hn.bel⟩
  obtain ⟨j, hj, e⟩ := List.getElem_of_mem hm
  have h4 := h.v.rs i hi j hj ((G.bs i).getD j 0) (Or.inl rfl)
  rw [← List.getElem_eq_getD (h := hj), e] at h4
  have := hn.new s (Or.inl rfl)
  have := (h.lt s (by omega)).1
  omega

/-! ### segments go from the front of a level -/
noncomputable def Gh.cut (G : Gh) (i : Nat) (v : Value) (n : Nat) : Gh := { G with lr := fun j => if j = i then v else G.lr j, bs := fun j => if j = i then (G.bs j).drop n else G.bs j }
def Lg.cut (L : Lg) (i n : Nat) : Lg := { L with lev := fun j => if j = i then (L.lev j).drop n else L.lev j }
theorem lgC_cut (G : Gh) (L : Lg) (i : Nat) (hi : i < 6) (v : Value) (n : Nat) : (lgC G L).setIfInBounds (8 + i) v = lgC (G.cut i v n) (L.cut i n) := by
  rcases (show i = 0 ∨ i = 1 ∨ i = 2 ∨ i = 3 ∨ i = 4 ∨ i = 5 by omega) with rfl | rfl | rfl | rfl | rfl | rfl <;> simp [lgC, Gh.cut, Lg.cut]
theorem getD_drop {α : Type} (l : List α) (n j : Nat) (z : α) : (l.drop n).getD j z = l.getD (n + j) z := by simp [List.getD, List.getElem?_drop]

theorem LogX.cutFin {w W5 : World} {ρ : Nat → Nat} {B N lb : Nat} {G : Gh} {L : Lg} (h : LogX w ρ B N lb G L) {i n : Nat} (hi : i < 6) {v5 : Value}
    (o5 : W5.ownsRow B 70 1 v5 ((G.bs i).drop n).length (((G.bs i).drop n).map ptrV)) (g6 : w.grownBy W5 (G.lr i).ownBlock) (n5 : v5.ownBlock = (G.lr i).ownBlock) :
    LogX (W5.setCell ⟨lb, 8 + i, none⟩ v5) ρ B N lb (G.cut i v5 n) (L.cut i n) ∧ LStp w (W5.setCell ⟨lb, 8 + i, none⟩ v5) ρ ρ ∧ Same w (W5.setCell ⟨lb, 8 + i, none⟩ v5) ρ (fun c => c = 3) := by
  have ht : Tch (fun k => some k = (G.lr i).ownBlock) w W5 := ⟨g6.os, g6.tape, g6.output, g6.size, fun k hk q => g6.block k hk q⟩
  have hS : ∀ k, some k = (G.lr i).ownBlock → ρ k = 10 + i ∧ ¬ isN w k := fun k q => by
    obtain ⟨_, _, D, hD⟩ := own_block (h.v.row i hi) q
    exact ⟨h.v.rr i hi k q, notN hD (by decide)⟩
  have hsm := h.others ht hS
  have hstp : LStp w W5 ρ ρ := ⟨ht.mono (fun k _ q => ⟨by rw [(hS k q).1]; omega, (hS k q).2⟩), fun k _ q => q⟩
  have hsegs : ∀ {s' mb' : Nat} {es' : List Ent} {ev' : Value}, SegAt w B s' es' ev' mb' → (∀ k, ownS s' mb' ev' k → ρ k = 4) → SegAt W5 B s' es' ev' mb' := fun hs' hr' => hs'.same (fun g q => hsm (fun c => c = 4) (by omega) (by omega) g (q.imp (fun q => hr' g q) id))
  have hV : LV W5 ρ B (G.cut i v5 n) (L.cut i n) := by
    refine ⟨fun i' hi' => ?_, fun i' hi' => ?_, fun i' hi' j hj => ?_, fun i' hi' g q => ?_, fun i' hi' j hj k q => ?_⟩
    · by_cases e : i' = i
      · subst e
        simp only [Gh.cut, if_pos]
        exact o5
      · simp only [Gh.cut, if_neg e]
        exact own_same (h.v.row i' hi') (fun g q => hsm (fun c => c = 10 + i') (by omega) (by omega) g (Or.inl (h.v.rr i' hi' g q)))
    · have := h.v.len i' hi'
      by_cases e : i' = i
      · simp only [Gh.cut, Lg.cut, if_pos e, List.length_drop]; rw [this]
      · simp only [Gh.cut, Lg.cut, if_neg e]; exact this
    · by_cases e : i' = i
      · simp only [Gh.cut, Lg.cut, if_pos e] at hj ⊢
        rw [List.length_drop] at hj
        rw [getD_drop, getD_drop]
        exact hsegs (h.v.seg i' hi' (n + j) (by omega)) (h.v.rs i' hi' (n + j) (by omega))
      · simp only [Gh.cut, Lg.cut, if_neg e] at hj ⊢
        exact hsegs (h.v.seg i' hi' j hj) (h.v.rs i' hi' j hj)
    · by_cases e : i' = i
      · simp only [Gh.cut, if_pos e] at q
        rw [n5] at q
        rw [e]
        exact h.v.rr i hi g q
      · simp only [Gh.cut, if_neg e] at q
        exact h.v.rr i' hi' g q
    · by_cases e : i' = i
      · simp only [Gh.cut, if_pos e] at hj q
        rw [List.length_drop] at hj
        rw [getD_drop] at q
        exact h.v.rs i' hi' (n + j) (by omega) k q
      · simp only [Gh.cut, if_neg e] at hj q
        exact h.v.rs i' hi' j hj k q
  have hlt : ∀ k, ρ k ≠ 0 → k < W5.heap.size ∧ B ≤ k := fun k q => ⟨Nat.lt_of_lt_of_le (h.lt k q).1 g6.size, (h.lt k q).2⟩
  have hb5 : LHd W5 ρ lb G L := h.b.same (hsm _ (by omega) (by omega))
  have xj := h.j.same (hsm _ (by omega) (by omega))
  have xk := h.k.same (hsm _ (by omega) (by omega))
  have xt := h.t.same (hsm _ (by omega) (by omega))
  obtain ⟨r1, r2⟩ := head_set (N := N) hb5 hlt (8 + i) v5 (lgC_cut G L i hi v5 n) ⟨xj.j, xj.rl⟩ hV ⟨xk.row, xk.len, xk.one, xk.lst, xk.ok, xk.few, xk.ge, xk.rw, xk.rb, xk.rl⟩ ⟨xt.map, xt.rl, xt.ge⟩
  refine ⟨r1, hstp.trans r2, fun g q => ?_⟩
  rw [set_other (fun e => ?_)]
  · exact hsm (fun c => c = 3) (by omega) (by omega) g q
  · subst e
    rcases q with q | q
    · rw [h.b.rl] at q; omega
    · exact notN h.b.blk (by decide) q

/-- What is the same of where a log lies, but for its levels and its workers' lists. -/
def GK (G G' : Gh) : Prop := G' = { G with lr := G'.lr, bs := G'.bs, se := G'.se, sm := G'.sm, wl := G'.wl }
theorem GK.refl (G : Gh) : GK G G := rfl
theorem GK.trans {G G1 G2 : Gh} (h1 : GK G G1) (h2 : GK G1 G2) : GK G G2 := by
  unfold GK at *
  rw [h1] at h2
  exact h2
/-- A step that leaves the memory. -/
structure XStp (w w' : World) (ρ : Nat → Nat) (B N lb : Nat) (G : Gh) (L' : Lg) : Prop where
  ex : ∃ ρ' G', LogX w' ρ' B N lb G' L' ∧ GK G G' ∧ LStp w w' ρ ρ' ∧ (∀ g, ρ g ≠ 0 → ρ' g = ρ g) ∧ Same w w' ρ (fun c => c = 3)
theorem XStp.of_below {w w' : World} {ρ : Nat → Nat} {B N lb : Nat} {G : Gh} {L : Lg} (h : LogX w ρ B N lb G L) (hb : Below w.heap.size w w') : XStp w w' ρ B N lb G L := ⟨⟨ρ, G, h.below hb, GK.refl G, ⟨tch_below hb, fun _ _ q => q⟩, fun _ _ => rfl, Same.below h.lt (by omega) hb⟩⟩
theorem XStp.pre {w w1 w2 : World} {ρ : Nat → Nat} {B N lb : Nat} {G : Gh} {L L' : Lg} (h : LogX w ρ B N lb G L) (hb : Below w.heap.size w w1) (h2 : XStp w1 w2 ρ B N lb G L') : XStp w w2 ρ B N lb G L' := by
  obtain ⟨⟨ρ2, G2, b1, b2, b3, b4, b5⟩⟩ := h2
  exact ⟨⟨ρ2, G2, b1, b2, LStp.pre hb b3, b4, b5.pre h hb⟩⟩
theorem Laid.xstp {w w' : World} {ρ : Nat → Nat} {B N lb : Nat} {G : Gh} {L : Lg} {ks : List Wk} (h : Laid w w' ρ B N lb G L ks) : XStp w w' ρ B N lb G { L with wks := ks } := by
  obtain ⟨⟨ρ', wl', r1, r2, r3, r4⟩⟩ := h
  exact ⟨⟨ρ', _, r1, rfl, r2, r3, r4⟩⟩
/-- The log behind a step that leaves the memory. -/
theorem XStp.log {w w' : World} {ρ : Nat → Nat} {B N lb : Nat} {G : Gh} {L L' : Lg} (hm : LM w ρ B G L) (h : XStp w w' ρ B N lb G L') (hl : L'.mem = L.mem) : ∃ ρ' G', LogAt w' ρ' B N lb G' L' ∧ LStp w w' ρ ρ' ∧ GK G G' := by
  obtain ⟨⟨ρ', G', r1, r2, r3, r4, r5⟩⟩ := h
  have xm := LM.role (ρ' := ρ') (hm.same r5) (fun g q => (r4 g (by omega)).trans q)
  refine ⟨ρ', G', ⟨r1, ⟨?_, ?_⟩⟩, r3, r2⟩
  · rw [r2, hl]; exact xm.seg
  · rw [r2]; exact xm.rl
/-- What a merging leaves of the segments. -/
def Lg.left (L : Lg) (i m : Nat) : List Ent := ((L.lev i).take L.fan).flatten.filter (kp ((L.clock : Int) - (L.keep : Int)) m)
def Lg.mrg (L : Lg) (i m : Nat) : Lg := (if L.left i m = [] then L else L.put (i + 1) (L.left i m)).cut i L.fan
/-- The log behind the end of a task. -/
def Lg.ends (L : Lg) (i m : Nat) : Lg := { L.mrg i m with wks := layTo L.fan (fun j => ((L.mrg i m).lev j).length) L.wks 5 }
end Go.Proofs.YtkncboinfcnklabGreatDoor

namespace Go.Proofs.YtkncboinfcnklabGreatDoor
open Go.RowKit Go.Deep Go.Shelf Go.Proofs.YtkncboinfcnklabGreatDoor.Mth

theorem getD_take {α : Type} {l : List α} {n j : Nat} (z : α) (h : j < n) : (l.take n).getD j z = l.getD j z := by simp [List.getD, h]
theorem XStp.more {w w1 w2 : World} {ρ ρ1 : Nat → Nat} {B N lb : Nat} {G G1 : Gh} {L2 : Lg} (a2 : GK G G1) (a3 : LStp w w1 ρ ρ1) (a4 : ∀ g, ρ g ≠ 0 → ρ1 g = ρ g) (a5 : Same w w1 ρ (fun c => c = 3)) (h2 : XStp w1 w2 ρ1 B N lb G1 L2) : XStp w w2 ρ B N lb G L2 := by
  obtain ⟨⟨ρ2, G2, b1, b2, b3, b4, b5⟩⟩ := h2
  exact ⟨⟨ρ2, G2, b1, a2.trans b2, a3.trans b3, fun g q => (b4 g (by rw [a4 g q]; exact q)).trans (a4 g q), a5.trans (by omega) a4 b5⟩⟩
theorem GK.put {G : Gh} {i : Nat} {v : Value} {s : Nat} {ev : Value} {mb : Nat} : GK G (G.put i v s ev mb) := rfl
theorem GK.cut {G : Gh} {i : Nat} {v : Value} {n : Nat} : GK G (G.cut i v n) := rfl
/-- A segment is made and put. -/
theorem put_new {w W w3 : World} {ρ : Nat → Nat} {B N lb : Nat} {G : Gh} {L : Lg} (h : LogX w ρ B N lb G L) (hB : B ≤ w.heap.size) (hW : Below w.heap.size w W) {s mb : Nat} {es : List Ent} {ev : Value} (hn : NewSeg W w3 B s es ev mb) {i : Nat} (hi : i < 6) (hl : (L.lev i).length ≤ 4000000) {tb : Nat} (htb : w.heap.size ≤ tb) (htb2 : tb < W.heap.size) :
    ∀ W4, Below w3.heap.size w3 W4 → Calls Tryz.prog 38 #[ptrV lb, .int .i64 (i : Int), ptrV s] W4 fun e w' => e = .returned (.tuple #[]) ∧ XStp w w' ρ B N lb G (L.put i es) ∧ w'.heap[tb]? = W4.heap[tb]? := by
  intro W4 h4
  obtain ⟨ρ3, a1, a2, a3, a4, a5, a6⟩ := (h.below hW).newSeg (Nat.le_trans hB hW.size) hn
  have hb4 := a1.below h4
  refine (put_log hb4 (Nat.le_trans hB (Nat.le_trans hW.size (Nat.le_trans hn.bel.size h4.size))) hi (hn.seg.below h4) a2 a3 hl).mono ?_
  rintro e w5 ⟨rfl, ρ5, v5, r1, r2, r3, r4⟩
  refine ⟨rfl, XStp.more (GK.refl G) (LStp.pre hW a4) a5 (a6.pre h hW) (XStp.pre a1 h4 ⟨⟨ρ5, _, r1, GK.put, r2, r3, r4⟩⟩), ?_⟩
  exact r2.tch.block tb (Nat.lt_of_lt_of_le htb2 (Nat.le_trans hn.bel.size h4.size)) (fun q => q.1 (a4.old tb htb2 (h.zero htb)))

set_option maxRecDepth 100000 in
set_option maxHeartbeats 8000000 in
theorem end_any {w : World} {ρ : Nat → Nat} {B N lb : Nat} {G : Gh} {L : Lg} (h : LogX w ρ B N lb G L) (hB : B ≤ w.heap.size) (ht : TabB B w) {i : Nat} (hi : i ≤ 4) (hf : L.fan ≤ (L.lev i).length) (hf1 : 1 ≤ L.fan) (hf4 : L.fan ≤ 4) (hc : L.clock ≤ 1000000000000) (hk : L.keep ≤ 1000000)
    (hl : ∀ i, i < 6 → (L.lev i).length ≤ 500000) (hT : ((L.lev i).take L.fan).flatten.length ≤ 1048576) (hx : ∀ es ∈ L.lev i, ∀ e ∈ es, e.text.size ≤ 60) :
    Calls Tryz.prog 110 #[ptrV lb, tkV i] w fun e w' => e = .returned (.tuple #[]) ∧ ∃ m, Need L m ∧ XStp w w' ρ B N lb G (L.ends i m) := by
  obtain ⟨a, c, hlr, hc2, hm⟩ := own_slice (h.v.row i (by omega))
  have hrow := h.v.row i (by omega)
  have hlen := h.v.len i (by omega)
  rw [hlr] at hrow
  obtain ⟨g, rfl⟩ := own_some hrow (by omega)
  have hb1 := below_allocG w (Obj.cells #[.int .i64 (i : Int), .int .i64 ((i : Int) + 1)] 108)
  have ht0 := new_blk w #[.int .i64 (i : Int), .int .i64 ((i : Int) + 1)] 108
  have h1 := h.below hb1
  obtain ⟨c8, _⟩ := cell_of (j := 8 + i) (u := G.lr i) h1.b.blk (lgC_lr G L i (by omega))
  rw [hlr] at c8
  obtain ⟨cf, _⟩ := cell_of (j := 1) (u := .int .i64 (L.fan : Int)) h1.b.blk rfl
  obtain ⟨t0, _⟩ := cell_of (j := 0) (u := .int .i64 (i : Int)) ht0 rfl
  obtain ⟨t1, _⟩ := cell_of (j := 1) (u := .int .i64 ((i : Int) + 1)) ht0 rfl
  unfold maxLen at hm
  have CK : Hid (∀ W, Below w.heap.size w W → Calls Tryz.prog 130 #[ptrV lb, .slice (some ⟨g, 0, none⟩) L.fan c] W fun e w' => ∃ v m, e = .returned v ∧ Need L m ∧ CurE W w' v (L.left i m)) := by
    intro W hW
    have hXW := h.below hW
    have hrW := hXW.v.row i (by omega)
    rw [hlr] at hrW
    have htl : ((G.bs i).take L.fan).length = L.fan := by rw [List.length_take]; omega
    refine kept_any hXW hc hk (bs := (G.bs i).take L.fan) (es := (L.lev i).take L.fan) ⟨some ⟨g, 0, none⟩, c, by rw [htl], by omega, by unfold maxLen; omega, Or.inr ⟨g, 0, rfl, fun j hj => ?_⟩⟩ (by rw [htl, List.length_take]; omega) (fun j hj => ?_) hT
    · rw [htl] at hj
      rw [Nat.zero_add, getD_take _ hj]
      exact own_get hrW (by rw [List.getElem?_map, List.getElem?_eq_getElem (by omega), List.getElem_eq_getD 0]; rfl)
    · rw [List.length_take] at hj
      rw [getD_take _ (by omega), getD_take _ (by omega)]
      exact ⟨_, _, hXW.v.seg i (by omega) j (by omega)⟩
  have hi6 : (i : Int) < 6 := by omega
  have hfc : (L.fan : Int) ≤ (c : Int) := by omega
  have H := hide h
  clear h h1 hrow hlr
  generalize hbl : (G.bs i).length = n at *
  go_enter Tryz.func110, Tryz.ntmps110
  go_wp2_with fail
  go_quiet (fail)
  have HB1 := hide (hb1.trans ((drewG _ nq).mono hb1.size))
  have HT0 : Hid (((w.alloc (Obj.cells #[.int .i64 (i : Int), .int .i64 ((i : Int) + 1)] 108)).drewN nq).heap[w.heap.size]? = some (Obj.cells #[.int .i64 (i : Int), .int .i64 ((i : Int) + 1)] 108 (0, 0))) := ht0
  clear hb1 ht0 c8 cf t0 t1
  generalize (w.alloc (Obj.cells #[.int .i64 (i : Int), .int .i64 ((i : Int) + 1)] 108)).drewN nq = W1 at *
  go_upto_if 24 with (first
    | (go_at_call 130; refine (CK.out _ HB1.out).mono ?_; rintro e w2 ⟨v, m, rfl, hnd, hcur⟩; have HND := hide hnd; have HCUR := hide hcur; obtain ⟨va, vc, rfl, _, _⟩ := own_slice hcur.2; clear hnd hcur))
  have hb2 := HB1.out.trans (HCUR.out.1.mono HB1.out.size)
  have ht2 := (HCUR.out.1.block w.heap.size (Array.getElem?_eq_some_iff.1 HT0.out).1).trans HT0.out
  have HLX : Hid (∀ j, ((L.put (i + 1) (L.left i m)).lev j).length ≤ (L.lev j).length + 1) := by
    intro j
    unfold Lg.put
    simp only
    split <;> simp
  have hkl : (L.left i m).length ≤ 1048576 := Nat.le_trans (List.length_filter_le _ _) hT
  have hkt : ∀ e ∈ L.left i m, e.text.size ≤ 60 := fun e he => by
    obtain ⟨es, h1, h2⟩ := List.mem_flatten.1 (List.mem_filter.1 he).1
    exact hx es (List.mem_of_mem_take h1) e h2
  have CS : Hid (∀ W, Below w2.heap.size w2 W → Calls Tryz.prog 36 #[.slice va (L.left i m).length vc] W fun r w3 => ∃ s, r = .returned (ptrV s) ∧ w3.heap[w.heap.size]? = some (Obj.cells #[.int .i64 (i : Int), .int .i64 ((i : Int) + 1)] 108 (0, 0)) ∧ ∀ W4, Below w3.heap.size w3 W4 → Calls Tryz.prog 38 #[ptrV lb, .int .i64 ((i : Int) + 1), ptrV s] W4 fun e w' => e = .returned (.tuple #[]) ∧ XStp w w' ρ B N lb G (L.put (i + 1) (L.left i m)) ∧ w'.heap[w.heap.size]? = some (Obj.cells #[.int .i64 (i : Int), .int .i64 ((i : Int) + 1)] 108 (0, 0))) := by
    intro W hW
    have hbW := hb2.trans (hW.mono hb2.size)
    have htW := (hW.block w.heap.size (Array.getElem?_eq_some_iff.1 ht2).1).trans ht2
    refine (newSeg_any W B (Nat.le_trans hB hbW.size) (ht W (hbW.mono hB)) (rdE_own (own_same HCUR.out.2 (fun g q => hW.block g (own_block HCUR.out.2 q).2.1))) hkt hkl).mono ?_
    rintro r w3 ⟨s, mb, ev, rfl, hn⟩
    have htw := (hn.bel.block w.heap.size (Array.getElem?_eq_some_iff.1 htW).1).trans htW
    refine ⟨s, rfl, htw, fun W4 h4 => ?_⟩
    have := put_new H.out hB hbW hn (i := i + 1) (by omega) (by have := hl (i + 1) (by omega); omega) (tb := w.heap.size) (Nat.le_refl _) (Array.getElem?_eq_some_iff.1 htW).1 W4 h4
    rw [show ((i + 1 : Nat) : Int) = (i : Int) + 1 by omega] at this
    refine this.mono ?_
    rintro e w5 ⟨rfl, r1, r2⟩
    exact ⟨rfl, r1, r2.trans ((h4.block w.heap.size (Array.getElem?_eq_some_iff.1 htw).1).trans htw)⟩
  go_cut [5] from 24 (fun _ wx => XStp w wx ρ B N lb G (if L.left i m = [] then L else L.put (i + 1) (L.left i m)) ∧ wx.heap[w.heap.size]? = some (Obj.cells #[.int .i64 (i : Int), .int .i64 ((i : Int) + 1)] 108 (0, 0)))
  case first =>
    by_cases hK : L.left i m = []
    · have h0 : decide (0 < (L.left i m).length) = false := by simp [hK]
      have HF : Hid (XStp w w2 ρ B N lb G (if L.left i m = [] then L else L.put (i + 1) (L.left i m)) ∧ w2.heap[w.heap.size]? = some (Obj.cells #[.int .i64 (i : Int), .int .i64 ((i : Int) + 1)] 108 (0, 0))) := ⟨by rw [if_pos hK]; exact XStp.of_below H.out hb2, ht2⟩
      rw [h0]
      clear hK h0
      go_wp2
      go_meet
      case rel => exact HF.out
    · have h0 : decide (0 < (L.left i m).length) = true := decide_eq_true (List.length_pos_iff.2 hK)
      have HIF : Hid ((if L.left i m = [] then L else L.put (i + 1) (L.left i m)) = L.put (i + 1) (L.left i m)) := if_neg hK
      rw [h0]
      obtain ⟨t1, _⟩ := cell_of (j := 1) (u := .int .i64 ((i : Int) + 1)) ht2 rfl
      clear hK h0 hkt hkl HLX
      go_wp2_with fail
      go_region_with (first
        | (go_at_call 36; refine (CS.out _ (by first | exact Below.refl _ _ | exact drewG _ 1 | exact drewG _ 2)).mono ?_; rintro r w3 ⟨s, rfl, htb3, hput⟩; obtain ⟨t3, _⟩ := cell_of (j := 1) (u := .int .i64 ((i : Int) + 1)) htb3 rfl; have HPUT := hide hput; clear hput htb3)
        | (go_at_call 38; refine (HPUT.out _ (by first | exact Below.refl _ _ | exact drewG _ 1 | exact drewG _ 2)).mono ?_; rintro r w4 ⟨rfl, r1, r2⟩; have R1 := hide r1; have R2 := hide r2; clear r1 r2))
      all_goals (
        go_wp2_with fail
        go_meet
        rw [HIF.out]
        exact ⟨R1.out, R2.out⟩)
  case rest =>
    obtain ⟨⟨⟨ρ1, G1, a1, a2, a3, a4, a5⟩⟩, htb⟩ := hcut
    have HMRG : Hid (L.mrg i m = (if L.left i m = [] then L else L.put (i + 1) (L.left i m)).cut i L.fan) := rfl
    have HENDS : Hid (L.ends i m = { L.mrg i m with wks := layTo L.fan (fun j => ((L.mrg i m).lev j).length) L.wks 5 }) := rfl
    have hLX : ((if L.left i m = [] then L else L.put (i + 1) (L.left i m)).lev i).length = (L.lev i).length ∧ (∀ j, ((if L.left i m = [] then L else L.put (i + 1) (L.left i m)).lev j).length ≤ (L.lev j).length + 1) ∧ (if L.left i m = [] then L else L.put (i + 1) (L.left i m)).fan = L.fan ∧ (if L.left i m = [] then L else L.put (i + 1) (L.left i m)).wks = L.wks := by
      by_cases hK : L.left i m = []
      · rw [if_pos hK]
        exact ⟨rfl, fun j => by omega, rfl, rfl⟩
      · rw [if_neg hK]
        refine ⟨?_, HLX.out, rfl, rfl⟩
        unfold Lg.put
        simp
    generalize (if L.left i m = [] then L else L.put (i + 1) (L.left i m)) = LX at *
    obtain ⟨l1, l2, l3, l4⟩ := hLX
    have hrow := a1.v.row i (by omega)
    have hlen1 := a1.v.len i (by omega)
    obtain ⟨b5, c5, hlr5, hc5, hm5⟩ := own_slice hrow
    rw [hlr5] at hrow
    obtain ⟨g5, rfl⟩ := own_some hrow (by omega)
    obtain ⟨d8, f8⟩ := cell_of (j := 8 + i) (u := G1.lr i) a1.b.blk (lgC_lr G1 LX i (by omega))
    rw [hlr5] at d8
    obtain ⟨t0, _⟩ := cell_of (j := 0) (u := .int .i64 (i : Int)) htb rfl
    have htbn : ρ1 w.heap.size = 0 ∨ True := Or.inr trivial
    have hBc : B ≤ wc.heap.size := Nat.le_trans hB a3.tch.size
    have htg : g5 ≠ w.heap.size := fun e => by
      obtain ⟨_, _, D, hD⟩ := own_block hrow (g := g5) rfl
      rw [e] at hD
      exact cells_ne htb hD (by decide) rfl
    have hlg : lb ≠ g5 := fun e => by
      obtain ⟨_, _, D, hD⟩ := own_block hrow (g := g5) rfl
      rw [← e] at hD
      exact cells_ne a1.b.blk hD (by decide) rfl
    have htl : w.heap.size ≠ lb := fun e => by
      rw [e] at htb
      exact cells_ne htb a1.b.blk (by decide) rfl
    have CD : Hid (∀ W, Below wc.heap.size wc W → Calls Tryz.prog 131 #[.slice (some ⟨g5, 0, none⟩) (G1.bs i).length c5, .int .i64 0, .int .i64 (L.fan : Int)] W fun e w6 => e = .returned (.slice (some ⟨g5, 0, none⟩) ((G1.bs i).length - L.fan) c5) ∧ (w6.cell? ⟨w.heap.size, 0, none⟩ = some (.int .i64 (i : Int)) ∧ w6.cell? ⟨lb, 8 + i, none⟩ = some (.slice (some ⟨g5, 0, none⟩) (G1.bs i).length c5) ∧ w6.frozen? ⟨lb, 8 + i, none⟩ = false ∧ (w6.setCell ⟨lb, 8 + i, none⟩ (.slice (some ⟨g5, 0, none⟩) ((G1.bs i).length - L.fan) c5)).cell? ⟨w.heap.size, 0, none⟩ = some (.int .i64 (i : Int))) ∧ XStp w (w6.setCell ⟨lb, 8 + i, none⟩ (.slice (some ⟨g5, 0, none⟩) ((G1.bs i).length - L.fan) c5)) ρ B N lb G (LX.cut i L.fan)) := by
      intro W hW
      have hXW := a1.below hW
      have hrW := hXW.v.row i (by omega)
      rw [hlr5] at hrW
      have := delSeg_any hrW (by intro u hu; obtain ⟨b, _, rfl⟩ := List.mem_map.1 hu; rfl) (i := 0) (j := L.fan) (by omega) (by omega)
      rw [show ((0 : Nat) : Int) = 0 from rfl] at this
      refine this.mono ?_
      rintro e w6 ⟨rfl, ho, hg⟩
      rw [Nat.sub_zero, Nat.zero_mul, Nat.mul_one, List.take_zero, List.nil_append, ← List.map_drop] at ho
      have hkeep : ∀ k, k < W.heap.size → k ≠ g5 → w6.heap[k]? = W.heap[k]? := fun k hk hne => hg.block k hk (fun e => hne (by injection e))
      have htw := (hkeep w.heap.size (Nat.lt_of_lt_of_le (Array.getElem?_eq_some_iff.1 htb).1 hW.size) htg.symm).trans ((hW.block w.heap.size (Array.getElem?_eq_some_iff.1 htb).1).trans htb)
      have hlw := (hkeep lb (Array.getElem?_eq_some_iff.1 hXW.b.blk).1 hlg).trans hXW.b.blk
      obtain ⟨r1, r2, r3⟩ := hXW.cutFin (n := L.fan) (W5 := w6) (v5 := .slice (some ⟨g5, 0, none⟩) ((G1.bs i).length - L.fan) c5) (show i < 6 by omega) (by rw [List.length_drop]; exact ho) (by rw [hlr5]; exact hg) (by rw [hlr5]; rfl)
      refine ⟨rfl, ⟨(cell_of (j := 0) htw rfl).1, ?_⟩, XStp.more a2 a3 a4 a5 (XStp.pre a1 hW ⟨⟨ρ1, _, r1, GK.cut, r2, fun _ _ => rfl, r3⟩⟩)⟩
      have hcc := cell_of (j := 8 + i) (u := G1.lr i) hlw (lgC_lr G1 LX i (by omega))
      rw [hlr5] at hcc
      exact ⟨hcc.1, hcc.2, (cell_of (j := 0) ((set_other htl).trans htw) rfl).1⟩
    have CL : Hid (∀ W, XStp w W ρ B N lb G (LX.cut i L.fan) → Calls Tryz.prog 67 #[ptrV lb] W fun e w' => e = .returned (.tuple #[]) ∧ XStp w w' ρ B N lb G (L.ends i m)) := by
      rintro W ⟨⟨ρ7, G7, b1, b2, b3, b4, b5⟩⟩
      refine (layTasks_any b1 (Nat.le_trans hB b3.tch.size) (by show LX.fan ≤ 4; omega) (fun j hj => ?_)).mono ?_
      · have h1 := l2 j
        have h2 := hl j hj
        unfold Lg.cut
        simp only
        split
        · rw [List.length_drop]; omega
        · omega
      · rintro e w' ⟨rfl, hL⟩
        refine ⟨rfl, XStp.more b2 b3 b4 b5 ?_⟩
        have := hL.xstp
        rw [HENDS.out, HMRG.out]
        have e1 : (LX.cut i L.fan).fan = L.fan := l3
        have e2 : (LX.cut i L.fan).wks = L.wks := l4
        have e3 : layTo (LX.cut i L.fan).fan (fun j => ((LX.cut i L.fan).lev j).length) (LX.cut i L.fan).wks 5 = layTo L.fan (fun j => ((LX.cut i L.fan).lev j).length) L.wks 5 := by rw [e1, e2]
        rw [e3] at this
        exact this
    clear hrow hlr5 a1 a2 a3 a4 a5 H CK CS HT0 HB1 HCUR hb2 ht2 hkl hkt HLX HMRG HENDS htb
    have hfn : L.fan ≤ (G1.bs i).length := by omega
    clear hlen1 l1 l2 l3 l4 hlen hf hl hT hx ht
    generalize hn5 : (G1.bs i).length = n5 at *
    clear hn5 hbl
    go_wp2_with fail
    go_cut [5] from 31 (fun _ wx => XStp w wx ρ B N lb G (LX.cut i L.fan))
    case first =>
      go_region_with (go_at_call 131; refine (CD.out _ (by first | exact drewG _ 1 | exact drewG _ 2 | exact Below.refl _ _)).mono ?_; rintro r w6 ⟨rfl, ⟨k1, k2, k3, k4⟩, hX⟩; have HX := hide hX; clear hX)
      all_goals (
        go_wp2_with fail
        go_meet
        exact HX.out)
    case rest =>
      have CL2 := hide (CL.out _ hcut)
      clear CL hcut
      go_wp2_with (first
        | (go_at_call 67; refine CL2.out.mono ?_; rintro e w8 ⟨rfl, hX⟩; have HX := hide hX; clear hX))
      go_end0
      exact ⟨rfl, m, HND.out, HX.out⟩
end Go.Proofs.YtkncboinfcnklabGreatDoor
