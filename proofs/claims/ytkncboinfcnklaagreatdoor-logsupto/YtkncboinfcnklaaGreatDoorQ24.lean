import Derived.Test.YtkncboinfcnklaaGreatDoorQ23
namespace Go.Proofs.YtkncboinfcnklaaGreatDoor.Rl
open Go.RowKit Go.Deep Go.Shelf Go.Proofs.YtkncboinfcnklaaGreatDoor.Mth

set_option maxRecDepth 100000 in
set_option maxHeartbeats 2000000 in
theorem full_any {w : World} {B cb : Nat} {V : Rv} {L : Lg} (hb : w.heap[cb]? = some (Obj.cells (rfC V L) 234 (0, 0))) (h : w.ownsRow B 66 3 V.mv L.mem.length (L.mem.flatMap eC)) (_hl : L.mem.length ≤ 4194303) (_hm : L.memory ≤ 1000) : Calls Tryz.prog 203 #[ptrV cb] w fun e w' => e = .returned (.bool (decide (L.mem.length = L.memory))) ∧ Below w.heap.size w w' := by
  obtain ⟨a, kk, hmv, _, _⟩ := own_slice h
  have c0 := (cell_of (j := 0) (u := .int .i64 (L.memory : Int)) hb rfl).1
  have c8 := (cell_of (j := 8) (u := V.mv) hb rfl).1
  rw [hmv] at c8
  clear h hmv hb
  generalize L.mem.length = ml at *
  generalize L.memory = mm at *
  go_enter Tryz.func203, Tryz.ntmps203
  have hd : ((ml : Int) == (mm : Int)) = decide (ml = mm) := by
    rw [Bool.eq_iff_iff]; simp; omega
  go_wp2_with fail
  go_quiet (fail)
  go_wp2
  go_ret
  exact ⟨by first | rfl | (rw [← hd]; rfl) | simp, drewG w _⟩

set_option maxRecDepth 100000 in
set_option maxHeartbeats 2000000 in
theorem tickR_no {w : World} {cb : Nat} {V : Rv} {L : Lg} (hb : w.heap[cb]? = some (Obj.cells (rfC V L) 234 (0, 0))) (k : Int) (hk : -9223372036854775808 ≤ k ∧ k ≤ 9223372036854775807) (hc : L.clock ≤ 1000000000000) (hn : canTick L.clock k = false) : Calls Tryz.prog 131 #[ptrV cb, .int .i64 k] w fun e w' => e = .returned (.int .i64 1) ∧ Below w.heap.size w w' := by
  have c6 := (cell_of (j := 6) (u := .int .i64 (L.clock : Int)) hb rfl).1
  unfold canTick at hn
  clear hb
  generalize hcc : (L.clock : Int) = ck at *
  have h0 : 0 ≤ ck ∧ ck ≤ 1000000000000 := by omega
  clear hcc hc
  by_cases q1 : k < 1
  · go_enter Tryz.func131, Tryz.ntmps131
    go_wp2
    go_ret
    exact ⟨rfl, Below.refl _ _⟩
  · by_cases q2 : 1000 < k
    · go_enter Tryz.func131, Tryz.ntmps131
      go_wp2
      go_ret
      exact ⟨rfl, Below.refl _ _⟩
    · have q3 : 1000000000000 < ck + k := by
        simp at hn
        omega
      go_enter Tryz.func131, Tryz.ntmps131
      go_wp2
      go_ret
      exact ⟨rfl, Below.refl _ _⟩

set_option maxRecDepth 100000 in
set_option maxHeartbeats 2000000 in
theorem tickR_ok {Z : Nat → Prop} {w : World} {B cb : Nat} {V : Rv} {L : Lg} {all : List Ent} {ts : List Tl} (hb : w.heap[cb]? = some (Obj.cells (rfC V L) 234 (0, 0))) (h : RfV Z B w V L all ts) (hB : B ≤ w.heap.size) (k : Nat) (hl : all.length ≤ 4194303) (hc : L.clock ≤ 1000000000000) (hn : canTick L.clock (k : Int) = true) : Calls Tryz.prog 131 #[ptrV cb, .int .i64 (k : Int)] w fun e w' => e = .returned (.int .i64 0) ∧ Tch (fun g => g = cb) w w' ∧ ∃ V', w'.heap[cb]? = some (Obj.cells (rfC V' { L with clock := L.clock + k }) 234 (0, 0)) ∧ RfV Z B w' V' { L with clock := L.clock + k } all ts := by
  unfold canTick at hn
  have h0 : 1 ≤ k ∧ k ≤ 1000 ∧ L.clock + k ≤ 1000000000000 := by
    simp at hn
    omega
  have c6 := cell_of (j := 6) (u := .int .i64 (L.clock : Int)) hb rfl
  have c7 := cell_of (j := 7) (u := V.av) hb rfl
  have c18 := (cell_of (j := 18) (u := .bool false) hb rfl).1
  have CL := hide (later_any hb h.all (k : Int) hl hc)
  have hcb : cb < w.heap.size := (Array.getElem?_eq_some_iff.1 hb).1
  have FIN : Hid (∀ W2 v2, W2.ownsRow w.heap.size 66 3 v2 all.length (all.flatMap eC) → Below w.heap.size w W2 → W2.heap[cb]? = some (Obj.cells (rfC V L) 234 (0, 0)) ∧ ∀ W7, W7 = (W2.setCell ⟨cb, 6, none⟩ (.int .i64 ((L.clock : Int) + (k : Int)))).setCell ⟨cb, 7, none⟩ v2 → Tch (fun g => g = cb) w W7 ∧ ∃ V', W7.heap[cb]? = some (Obj.cells (rfC V' { L with clock := L.clock + k }) 234 (0, 0)) ∧ RfV Z B W7 V' { L with clock := L.clock + k } all ts) := by
    intro W2 v2 o2 b2
    have e2 := (b2.block cb hcb).trans hb
    refine ⟨e2, fun W7 hW7 => ?_⟩
    subst hW7
    have e3 := set_blk (j := 6) (v := .int .i64 ((L.clock : Int) + (k : Int))) e2
    have e4 := set_blk (j := 7) (v := v2) e3
    have kp : ∀ {B : Nat} {e : TypeId} {sz : Nat} {v : Value} {m : Nat} {xs : List Value}, 234 ≠ e → W2.ownsRow B e sz v m xs → ((W2.setCell ⟨cb, 6, none⟩ (.int .i64 ((L.clock : Int) + (k : Int)))).setCell ⟨cb, 7, none⟩ v2).ownsRow B e sz v m xs := fun he ho => own_set_other (own_set_other ho e2 he) e3 he
    have h2 := h.below b2
    refine ⟨⟨b2.os, b2.tape, b2.output, by simpa using b2.size, fun g hg hne => (set_other hne).trans ((set_other hne).trans (b2.block g hg))⟩, { V with av := v2 }, ?_, ⟨kp (by decide) (own_mono o2 hB), kp (by decide) h2.mem, fun i hi => kp (by decide) (h2.lev i hi), fun i hi j hj => kp (by decide) (h2.seg i hi j hj), h2.sz, kp (by decide) h2.wks, fun q hq => kp (by decide) (h2.lst q hq), h2.run, kp (by decide) h2.tls⟩⟩
    rw [e4]
    have : ((rfC V L).setIfInBounds 6 (.int .i64 ((L.clock : Int) + (k : Int)))).setIfInBounds 7 v2 = rfC { V with av := v2 } { L with clock := L.clock + k } := by
      rw [show (L.clock : Int) + (k : Int) = ((L.clock + k : Nat) : Int) by omega]
      rfl
    rw [this]
  obtain ⟨a, ka, hav, _, _⟩ := own_slice h.all
  rw [hav] at c7
  clear hb h hn
  obtain ⟨ck, hck⟩ : ∃ ck : Int, ck = (L.clock : Int) := ⟨_, rfl⟩
  rw [← hck] at c6 CL FIN
  have hck2 : 0 ≤ ck ∧ ck + (k : Int) ≤ 1000000000000 := by omega
  have HCK := hide hck
  clear hck
  go_enter Tryz.func131, Tryz.ntmps131
  go_wp2_with (first | (go_at_call 130; refine CL.out.mono ?_; rintro e W2 ⟨c', v2, rfl, hc', o2, b2⟩; obtain rfl := hc' (by omega) (by omega); obtain ⟨e2, hf⟩ := FIN.out W2 v2 o2 b2; obtain ⟨d6, f6⟩ := cell_of (j := 6) (u := .int .i64 (L.clock : Int)) e2 rfl; obtain ⟨d7, f7⟩ := cell_of (j := 7) (u := V.av) e2 rfl; have HF := hide hf; obtain ⟨a2, c2, rfl, _, _⟩ := own_slice o2; clear o2 b2 hf e2))
  go_ret
  exact ⟨rfl, HF.out _ rfl⟩
end Go.Proofs.YtkncboinfcnklaaGreatDoor.Rl

namespace Go.Proofs.YtkncboinfcnklaaGreatDoor.Rl
open Go.RowKit Go.Deep Go.Shelf Go.Proofs.YtkncboinfcnklaaGreatDoor.Mth

theorem rnV_eq {r : Option Nat} {i : Nat} : rnV r = (i : Int) ↔ r = some i := by
  cases r with
  | none => simp [rnV]
  | some j => simp [rnV]; omega
set_option maxRecDepth 100000 in
set_option maxHeartbeats 4000000 in
theorem hasR_any {w : World} {B cb : Nat} {V : Rv} {L : Lg} (hb : w.heap[cb]? = some (Obj.cells (rfC V L) 234 (0, 0))) (h : w.ownsRow B 304 3 V.wv L.wks.length (wkRs L.wks V.wl V.rd)) (hls : ∀ q, q < L.wks.length → w.ownsRow B 3 1 (V.wl q) (L.wks.getD q wk0).list.length ((L.wks.getD q wk0).list.map iV)) (hw : L.wks.length ≤ 4) (hwl : ∀ q, q < L.wks.length → (L.wks.getD q wk0).list.length ≤ 1000) (i : Nat) (hi : i ≤ 100) :
    Calls Tryz.prog 247 #[ptrV cb, .int .i64 (i : Int)] w fun e w' => e = .returned (.bool (hasT L.wks i)) ∧ Below w.heap.size w w' := by
  have c15 := (cell_of (j := 15) (u := V.wv) hb rfl).1
  obtain ⟨aw, cw, hwv, hcw, hcm⟩ := own_slice h
  rw [hwv] at c15 h
  have HR := hide h
  have HLS := hide hls
  have HWL := hide hwl
  have HT : Hid (∀ q, q < L.wks.length → tkIn (L.wks.getD q wk0) i = true → hasT L.wks i = true) := fun q hq ht => by
    unfold hasT
    rw [List.any_eq_true]
    exact ⟨_, by rw [← List.getElem_eq_getD (h := hq)]; exact List.getElem_mem hq, ht⟩
  have HF : Hid ((∀ q, q < L.wks.length → tkIn (L.wks.getD q wk0) i = false) → hasT L.wks i = false) := fun ha => by
    unfold hasT
    rw [List.any_eq_false]
    intro k hk
    obtain ⟨q, hq, rfl⟩ := List.mem_iff_getElem.1 hk
    have := ha q hq
    rw [← List.getElem_eq_getD (h := hq)] at this
    simp [this]
  unfold maxLen at hcm
  clear hb h hls hwl hwv
  generalize hhT : hasT L.wks i = hT at *
  generalize hnw : L.wks.length = nw at *
  have HNW := hide hnw
  clear hhT hnw
  go_enter Tryz.func247, Tryz.ntmps247
  go_wp2_with fail
  go_loopw [5] (fun x wr => ∃ q : Nat, q ≤ nw ∧ x = .int .i64 q ∧ wr = w ∧ ∀ p, p < q → tkIn (L.wks.getD p wk0) i = false) (fun x _ => nw - (intOf x).toNat)
  case atStart => exact ⟨0, Nat.zero_le _, rfl, rfl, fun p hp => absurd hp (Nat.not_lt_zero _)⟩
  case round =>
    obtain ⟨q, hqn, rfl, hwr, hno⟩ := hrel
    rw [hwr]
    have HWR := hide hwr
    clear hwr
    by_cases hlt : q < nw
    · obtain ⟨g, rfl⟩ := own_some HR.out (by omega)
      obtain ⟨r0, r1, r2⟩ := wkRs_at (ks := L.wks) (wl := V.wl) (rd := V.rd) (q := q) (by rw [HNW.out]; exact hlt)
      have k0 := own_get HR.out r0
      have k1 := own_get HR.out r1
      have hl0 := HLS.out q hlt
      have hll := HWL.out q hlt
      obtain ⟨al, cl, hvl, hcl, hcm2⟩ := own_slice hl0
      rw [hvl] at k0 hl0
      have HL0 := hide hl0
      have HTQ := hide (HT.out q hlt)
      have HNO := hide hno
      unfold maxLen at hcm2
      clear r0 r1 r2 hno hl0 hvl
      have hin : tkIn (L.wks.getD q wk0) i = (decide ((L.wks.getD q wk0).runs = some i) || decide (i ∈ (L.wks.getD q wk0).list)) := by
        unfold tkIn
        simp [eq_comm]
      have HIN := hide hin
      clear hin
      generalize hkq : L.wks.getD q wk0 = kq at *
      have HKQ := hide hkq
      clear hkq
      generalize hnl : kq.list.length = nl at *
      have HNL := hide hnl
      clear hnl
      by_cases hr : kq.runs = some i
      · have hrn : rnV kq.runs = (i : Int) := rnV_eq.2 hr
        rw [hrn] at k1
        have ht : hT = true := HTQ.out (by rw [HIN.out]; simp [hr])
        have HTT := hide ht
        clear ht
        go_wp2_with fail
        go_ret
        exact ⟨by rw [HTT.out]; rfl, Below.refl _ _⟩
      · have hrn : ¬ rnV kq.runs = (i : Int) := fun e => hr (rnV_eq.1 e)
        generalize rnV kq.runs = rr at *
        have hrn2 : (rr == (i : Int)) = false := by simpa using hrn
        go_wp2_with fail
        go_loopw [6] (fun y wr => ∃ k : Nat, k ≤ nl ∧ y = .int .i64 k ∧ wr = w ∧ ∀ p, p < k → ¬ kq.list.getD p 0 = i) (fun y _ => nl - (intOf y).toNat)
        case atStart => exact ⟨0, Nat.zero_le _, rfl, rfl, fun p hp => absurd hp (Nat.not_lt_zero _)⟩
        case round =>
          obtain ⟨k, hkn, rfl, hwr, hno⟩ := hrel
          rw [hwr]
          have HWR2 := hide hwr
          clear hwr
          by_cases hlt2 : k < nl
          · obtain ⟨gl, rfl⟩ := own_some HL0.out (by omega)
            have hgl : kq.list[k]? = some (kq.list.getD k 0) := by rw [List.getElem?_eq_getElem (by rw [HNL.out]; exact hlt2), List.getElem_eq_getD 0]
            have k3 := own_get HL0.out (show (kq.list.map iV)[k]? = some (iV (kq.list.getD k 0)) by rw [List.getElem?_map, hgl]; rfl)
            have hmem : kq.list.getD k 0 ∈ kq.list := List.mem_of_getElem? hgl
            have HNO2 := hide hno
            clear hno hgl
            by_cases hx : kq.list.getD k 0 = i
            · have ht : hT = true := HTQ.out (by rw [HIN.out]; rw [hx] at hmem; simp [hmem])
              have HTT := hide ht
              clear ht hmem
              generalize kq.list.getD k 0 = xx at *
              subst hx
              go_wp2_with fail
              go_ret
              exact ⟨by rw [HTT.out]; rfl, Below.refl _ _⟩
            · have HX := hide hx
              generalize hxx : kq.list.getD k 0 = xx at *
              have HXX := hide hxx
              clear hxx
              have hx2 : ((xx : Int) == (i : Int)) = false := by simp; omega
              clear hx hmem
              go_wp2_with fail
              go_roundw
              case rel => exact ⟨k + 1, by omega, by go_num, trivial, fun p hp => by
                by_cases e : p = k
                · subst e; rw [HXX.out]; exact HX.out
                · exact HNO2.out p (by omega)⟩
              case measure => simp [intOf]; omega
          · obtain rfl : k = nl := by omega
            have hf : tkIn kq i = false := by
              rw [HIN.out]
              simp only [Bool.or_eq_false_iff, decide_eq_false_iff_not]
              refine ⟨hr, fun hm => ?_⟩
              obtain ⟨p, hp, he⟩ := List.mem_iff_getElem.1 hm
              exact hno p (by rw [← HNL.out]; exact hp) (by rw [← List.getElem_eq_getD (h := hp)]; exact he)
            have HF2 := hide hf
            clear hf hno
            go_wp2_with fail
            go_roundw
            case rel => exact ⟨q + 1, by omega, by go_num, trivial, fun p hp => by
              by_cases e : p = q
              · subst e; rw [HKQ.out]; exact HF2.out
              · exact HNO.out p (by omega)⟩
            case measure => simp [intOf]; omega
    · obtain rfl : q = nw := by omega
      have ht : hT = false := HF.out (fun p hp => hno p hp)
      have HTT := hide ht
      clear ht
      go_wp2_with fail
      go_ret
      exact ⟨by rw [HTT.out]; rfl, Below.refl _ _⟩
end Go.Proofs.YtkncboinfcnklaaGreatDoor.Rl

namespace Go.Proofs.YtkncboinfcnklaaGreatDoor.Rl
open Go.RowKit Go.Deep Go.Shelf Go.Proofs.YtkncboinfcnklaaGreatDoor.Mth

theorem wkRs_set {ks : List Wk} {wl : Nat → Value} {rd : Nat → Int} {q : Nat} {k' : Wk} {v : Value} (hq : q < ks.length) (hr : k'.runs = (ks.getD q wk0).runs) : (wkRs ks wl rd).set (q * 3) v = wkRs (ks.set q k') (fun p => if p = q then v else wl p) rd := by
  apply List.ext_getElem?
  intro j
  by_cases hj : j < ks.length * 3
  · have hp : j / 3 < ks.length := by omega
    obtain ⟨a0, a1, a2⟩ := wkRs_at (ks := ks) (wl := wl) (rd := rd) hp
    obtain ⟨b0, b1, b2⟩ := wkRs_at (ks := ks.set q k') (wl := fun p => if p = q then v else wl p) (rd := rd) (q := j / 3) (by simpa using hp)
    have hg : (if j / 3 = q then k'.runs else (ks.getD (j / 3) wk0).runs) = ((ks.set q k').getD (j / 3) wk0).runs := by
      by_cases e : j / 3 = q
      · subst e
        simp [hq]
      · rw [if_neg e, List.getD_eq_getElem?_getD, List.getD_eq_getElem?_getD, List.getElem?_set_ne (fun h => e h.symm)]
    have hg2 : ((ks.set q k').getD (j / 3) wk0).runs = (ks.getD (j / 3) wk0).runs := by
      rw [← hg]
      by_cases e : j / 3 = q
      · rw [if_pos e, hr, e]
      · rw [if_neg e]
    rcases (show j = j / 3 * 3 ∨ j = j / 3 * 3 + 1 ∨ j = j / 3 * 3 + 2 by omega) with e | e | e
    · by_cases e2 : j / 3 = q
      · rw [e, b0, if_pos e2, e2, List.getElem?_set_self (by rw [wkRs_len]; omega)]
      · rw [e, b0, if_neg e2, List.getElem?_set_ne (by omega), a0]
    · rw [e, b1, List.getElem?_set_ne (by omega), a1, hg2]
    · rw [e, b2, List.getElem?_set_ne (by omega), a2]
  · rw [List.getElem?_eq_none (by rw [List.length_set, wkRs_len]; omega), List.getElem?_eq_none (by rw [wkRs_len, List.length_set]; omega)]

/-- The workers' lists under way. -/
structure DuI (w wr : World) (B : Nat) (V : Rv) (nw : Nat) (wl : Nat → Value) (ks : List Wk) : Prop where
  len : ks.length = nw
  row : wr.ownsRow B 304 3 V.wv nw (wkRs ks wl V.rd)
  lst : ∀ q, q < nw → wr.ownsRow B 3 1 (wl q) (ks.getD q wk0).list.length ((ks.getD q wk0).list.map iV)
  dis : ∀ p q, p < nw → q < nw → p ≠ q → ∀ g, some g = (wl p).ownBlock → some g ≠ (wl q).ownBlock
  new : ∀ q, q < nw → ∀ g, some g = (wl q).ownBlock → some g = (V.wl q).ownBlock ∨ w.heap.size ≤ g
  tch : Tch (fun g => some g = V.wv.ownBlock ∨ ∃ q, q < nw ∧ some g = (V.wl q).ownBlock) w wr
theorem DuI.add {w wr W5 : World} {B g c : Nat} {V : Rv} {nw : Nat} {wl : Nat → Value} {ks : List Wk} (h : DuI w wr B V nw wl ks) (hg : V.wv = .slice (some ⟨g, 0, none⟩) nw c) {q x : Nat} (hq : q < nw) {v5 : Value}
    (g5 : (wr.alloc (Obj.cells #[iV x] 3)).grownBy W5 (wl q).ownBlock) (o5 : W5.ownsRow B 3 1 v5 ((ks.getD q wk0).list.length + 1) ((ks.getD q wk0).list.map iV ++ [iV x])) (n5 : v5.ownBlock = (wl q).ownBlock ∨ v5.ownBlock = some (wr.alloc (Obj.cells #[iV x] 3)).heap.size) :
    (W5.cell? ⟨g, q * 3, none⟩ = some (wl q) ∧ W5.frozen? ⟨g, q * 3, none⟩ = false) ∧ DuI w (W5.setCell ⟨g, q * 3, none⟩ v5) B V nw (fun p => if p = q then v5 else wl p) (ks.set q ⟨(ks.getD q wk0).list ++ [x], (ks.getD q wk0).runs, (ks.getD q wk0).read⟩) := by
  have b1 := below_allocG wr (Obj.cells #[iV x] 3)
  have hs1 : (wr.alloc (Obj.cells #[iV x] 3)).heap.size = wr.heap.size + 1 := by simp
  have hrow := h.row
  rw [hg] at hrow
  have blk : ∀ k, k < wr.heap.size → some k ≠ (wl q).ownBlock → W5.heap[k]? = wr.heap[k]? := fun k hk hn => (g5.block k (by rw [hs1]; omega) hn).trans (b1.block k hk)
  have hgb := own_block hrow (g := g) rfl
  have hgq : some g ≠ (wl q).ownBlock := fun e => by
    obtain ⟨_, _, D, hD⟩ := own_block (h.lst q hq) e
    obtain ⟨_, _, D', hD'⟩ := hgb
    exact absurd (cells_ty hD' hD) (by decide)
  have row5 : W5.ownsRow B 304 3 (.slice (some ⟨g, 0, none⟩) nw c) nw (wkRs ks wl V.rd) := own_same hrow (fun k hk => by
    injection hk with hk
    subst hk
    exact blk k hgb.2.1 hgq)
  have lst5 : ∀ p, p < nw → p ≠ q → W5.ownsRow B 3 1 (wl p) (ks.getD p wk0).list.length ((ks.getD p wk0).list.map iV) := fun p hp hne => own_same (h.lst p hp) (fun k hk => blk k (own_block (h.lst p hp) hk).2.1 (h.dis p q hp hq hne k hk))
  have hg5 : ∃ C, W5.heap[g]? = some (Obj.cells C 304 (0, 0)) := by
    obtain ⟨_, _, C, hC⟩ := own_block row5 (g := g) rfl
    exact ⟨C, hC⟩
  obtain ⟨C5, hC5⟩ := hg5
  have kp : ∀ {B : Nat} {e : TypeId} {sz : Nat} {v : Value} {m : Nat} {xs : List Value}, 304 ≠ e → W5.ownsRow B e sz v m xs → (W5.setCell ⟨g, q * 3, none⟩ v5).ownsRow B e sz v m xs := fun he ho => own_set_other ho hC5 he
  have hlen := h.len
  obtain ⟨a0, _, _⟩ := wkRs_at (ks := ks) (wl := wl) (rd := V.rd) (q := q) (by omega)
  have new5 : ∀ k, some k = v5.ownBlock → some k = (wl q).ownBlock ∨ wr.heap.size ≤ k := fun k hk => by
    rcases n5 with e | e
    · rw [e] at hk; exact Or.inl hk
    · rw [e] at hk
      injection hk with hk
      right
      rw [hk, hs1]
      omega
  refine ⟨⟨own_get row5 a0, (own_there row5 (j := q * 3) (by obtain ⟨_, _, e, h1, _⟩ := own_slice row5; injection e with _ _ e; subst e; omega)).2⟩, by simpa using hlen, ?_, fun p hp => ?_, fun p r hp hr hne k hk => ?_, fun p hp k hk => ?_, ?_⟩
  · rw [hg]
    have := own_store (i := q * 3) (y := v5) row5 (by omega)
    rwa [wkRs_set (k' := ⟨(ks.getD q wk0).list ++ [x], (ks.getD q wk0).runs, (ks.getD q wk0).read⟩) (by omega) rfl] at this
  · by_cases e : p = q
    · subst e
      simp only [if_pos]
      have hgd : ((ks.set p ⟨(ks.getD p wk0).list ++ [x], (ks.getD p wk0).runs, (ks.getD p wk0).read⟩).getD p wk0).list = (ks.getD p wk0).list ++ [x] := by
        rw [List.getD_eq_getElem?_getD, List.getElem?_set_self (by omega)]
        rfl
      rw [hgd]
      refine kp (by decide) ?_
      simpa using o5
    · simp only [if_neg e]
      have hgd : (ks.set q ⟨(ks.getD q wk0).list ++ [x], (ks.getD q wk0).runs, (ks.getD q wk0).read⟩).getD p wk0 = ks.getD p wk0 := by
        rw [List.getD_eq_getElem?_getD, List.getElem?_set_ne (fun h => e h.symm), List.getD_eq_getElem?_getD]
      rw [hgd]
      exact kp (by decide) (lst5 p hp e)
  · by_cases ep : p = q
    · subst ep
      simp only [if_pos, if_neg (show r ≠ p from fun h => hne h.symm)] at hk ⊢
      intro hq2
      rcases new5 k hk with e | e
      · exact h.dis p r hp hr hne k e hq2
      · have := (own_block (h.lst r hr) hq2).2.1
        omega
    · by_cases er : r = q
      · subst er
        simp only [if_pos, if_neg ep] at hk ⊢
        intro hq2
        rcases new5 k hq2 with e | e
        · exact h.dis p r hp hr hne k hk e
        · have := (own_block (h.lst p hp) hk).2.1
          omega
      · simp only [if_neg ep, if_neg er] at hk ⊢
        exact h.dis p r hp hr hne k hk
  · by_cases ep : p = q
    · subst ep
      simp only [if_pos] at hk
      rcases new5 k hk with e | e
      · exact h.new p hp k e
      · exact Or.inr (Nat.le_trans h.tch.size e)
    · simp only [if_neg ep] at hk
      exact h.new p hp k hk
  · refine ⟨g5.os.trans (b1.os.trans h.tch.os), g5.tape.trans (b1.tape.trans h.tch.tape), g5.output.trans (b1.output.trans h.tch.output), ?_, fun k hk hn => ?_⟩
    · have h1 := h.tch.size
      have h2 := g5.size
      rw [hs1] at h2
      simp
      omega
    · have hkg : k ≠ g := fun e => hn (Or.inl (by rw [hg, e]; rfl))
      rw [set_other hkg]
      have hkw : k < wr.heap.size := Nat.lt_of_lt_of_le hk h.tch.size
      have hne : some k ≠ (wl q).ownBlock := fun e => by
        rcases h.new q hq k e with e | e
        · exact hn (Or.inr ⟨q, hq, e⟩)
        · omega
      rw [blk k hkw hne]
      exact h.tch.block k hk hn
end Go.Proofs.YtkncboinfcnklaaGreatDoor.Rl

namespace Go.Proofs.YtkncboinfcnklaaGreatDoor.Rl
open Go.RowKit Go.Deep Go.Shelf Go.Proofs.YtkncboinfcnklaaGreatDoor.Mth

theorem DuI.below {w wr W : World} {B : Nat} {V : Rv} {nw : Nat} {wl : Nat → Value} {ks : List Wk} (h : DuI w wr B V nw wl ks) (hb : Below wr.heap.size wr W) : DuI w W B V nw wl ks :=
  ⟨h.len, own_belowR h.row hb, fun q hq => own_belowR (h.lst q hq) hb, h.dis, h.new, h.tch.trans (tch_below (S := fun _ => False) hb) (fun _ _ q => q.elim)⟩
theorem rfC_same {V V' : Rv} {L L' : Lg} (h1 : V'.av = V.av) (h2 : V'.mv = V.mv) (h3 : V'.lv = V.lv) (h4 : V'.wv = V.wv) (h5 : V'.tv = V.tv) (e1 : L'.memory = L.memory) (e2 : L'.fan = L.fan) (e3 : L'.back = L.back) (e4 : L'.wks.length = L.wks.length) (e5 : L'.keep = L.keep) (e6 : L'.batch = L.batch) (e7 : L'.clock = L.clock) (e8 : L'.subs = L.subs) : rfC V' L' = rfC V L := by
  unfold rfC
  rw [h1, h2, h3, h4, h5, e1, e2, e3, e4, e5, e6, e7, e8]

set_option maxRecDepth 100000 in
set_option maxHeartbeats 8000000 in
theorem due_any {w : World} {B cb : Nat} {V : Rv} {L : Lg} (hb : w.heap[cb]? = some (Obj.cells (rfC V L) 234 (0, 0))) (hd : DuI w w B V L.wks.length V.wl L.wks) (hlv : ∀ i, i < 6 → ∃ a c, V.lv i = .slice a (L.lev i).length c ∧ (L.lev i).length ≤ 4194304) (_hfan : L.fan ≤ 1000) (hw : 0 < L.wks.length ∧ L.wks.length ≤ 4) (hB : B ≤ w.heap.size) (hnd : ∀ q, q < L.wks.length → (L.wks.getD q wk0).list.length ≤ 900) :
    Calls Tryz.prog 204 #[ptrV cb] w fun e w' => e = .returned (.tuple #[]) ∧ ∃ wl', DuI w w' B V L.wks.length wl' (layTo L.fan (fun i => (L.lev i).length) L.wks 5) := by
  obtain ⟨u0, hu0, hv0, hv1, hv2⟩ := info_parts Tryz.infoI
  have HB := hide hb
  have HD := hide hd
  have HLV := hide hlv
  have hcb : cb < w.heap.size := (Array.getElem?_eq_some_iff.1 hb).1
  -- the block of the log stays
  have FB : Hid (∀ wr wl ks, DuI w wr B V L.wks.length wl ks → wr.heap[cb]? = some (Obj.cells (rfC V L) 234 (0, 0))) := by
    intro wr wl ks h
    refine (h.tch.block cb hcb (fun q => ?_)).trans HB.out
    rcases q with q | ⟨p, hp, q⟩
    · exact ty_ne HD.out.row HB.out (by decide) q
    · exact ty_ne (HD.out.lst p hp) HB.out (by decide) q
  have FL : Hid (∀ k, k ≤ 5 → ∀ q, q < L.wks.length → ((layTo L.fan (fun i => (L.lev i).length) L.wks k).getD q wk0).list.length ≤ (L.wks.getD q wk0).list.length + k) := by
    intro k
    induction k with
    | zero => intro _ q hq; simp [layTo]
    | succ k ih =>
      intro hk q hq
      have i1 := ih (by omega) q hq
      rw [layTo]
      generalize hks : layTo L.fan (fun i => (L.lev i).length) L.wks k = ks at *
      have hl : ks.length = L.wks.length := by rw [← hks]; exact layTo_len _ _ _ _
      unfold layOne
      split
      · by_cases e : k % ks.length = q
        · rw [e, List.getD_eq_getElem?_getD, List.getElem?_set_self (by omega)]
          simp only [Option.getD_some, List.length_append, List.length_cons, List.length_nil]
          omega
        · rw [List.getD_eq_getElem?_getD, List.getElem?_set_ne e, ← List.getD_eq_getElem?_getD]
          omega
      · omega
  have HND := hide hnd
  clear hb hd hlv hnd
  go_enter Tryz.func204, Tryz.ntmps204
  go_wp2_with fail
  go_loopw [2] (fun i wr => ∃ k : Nat, k ≤ 5 ∧ i = .int .i64 k ∧ ∃ wl, DuI w wr B V L.wks.length wl (layTo L.fan (fun i => (L.lev i).length) L.wks k)) (fun i _ => 5 - (intOf i).toNat)
  case atStart => exact ⟨0, by omega, rfl, _, HD.out⟩
  case round =>
    obtain ⟨k, hk, rfl, wl, hL⟩ := hrel
    by_cases hlt : k < 5
    · have hbr := FB.out _ _ _ hL
      have hfl := FL.out k (by omega)
      generalize hks : layTo L.fan (fun i => (L.lev i).length) L.wks k = ks at *
      have HNX : Hid (layTo L.fan (fun i => (L.lev i).length) L.wks (k + 1) = layOne L.fan (fun i => (L.lev i).length) ks k) := by show _ = _; rw [layTo, hks]
      have hkl : ks.length = L.wks.length := hL.len
      have hbr2 : wr.heap[cb]? = some (Obj.cells (rfC { V with wl := wl } { L with wks := ks }) 234 (0, 0)) := by
        rw [hbr]
        exact congrArg (fun C => some (Obj.cells C 234 (0, 0))) (rfC_same (V := { V with wl := wl }) (V' := V) (L := { L with wks := ks }) (L' := L) rfl rfl rfl rfl rfl rfl rfl rfl hkl.symm rfl rfl rfl rfl)
      have hwl2 : ∀ q, q < ks.length → (ks.getD q wk0).list.length ≤ 1000 := fun q hq => by
        have h1 := hfl q (by rw [← hkl]; exact hq)
        have h2 := HND.out q (by rw [← hkl]; exact hq)
        omega
      have CH := hide (hasR_any (V := { V with wl := wl }) (L := { L with wks := ks }) (B := B) hbr2 (by show wr.ownsRow B _ 3 V.wv ks.length (wkRs ks wl V.rd); rw [hkl]; exact hL.row) (fun q hq => hL.lst q (by rw [← hkl]; exact hq)) (by show ks.length ≤ 4; omega) hwl2 k (by omega))
      obtain ⟨al, cl, hlk, hln⟩ := HLV.out k (by omega)
      have HC : Hid (∀ W, Below wr.heap.size wr W → W.cell? ⟨cb, 9 + k, none⟩ = some (.slice al (L.lev k).length cl) ∧ W.cell? ⟨cb, 1, none⟩ = some (.int .i64 (L.fan : Int)) ∧ W.cell? ⟨cb, 3, none⟩ = some (.int .i64 (L.wks.length : Int)) ∧ W.cell? ⟨cb, 15, none⟩ = some V.wv) := by
        intro W hW
        have hbw := (hW.block cb (Array.getElem?_eq_some_iff.1 hbr).1).trans hbr
        refine ⟨?_, (cell_of (j := 1) hbw rfl).1, (cell_of (j := 3) hbw rfl).1, (cell_of (j := 15) hbw rfl).1⟩
        have := (cell_of hbw (rfC_lv V L (show k < 6 by omega))).1
        rw [hlk] at this
        exact this
      have HL := hide hL
      have HKL := hide hkl
      have HFL := hide hfl
      change Hid (Calls _ _ _ _ fun e w' => e = .returned (.bool (hasT ks k)) ∧ _) at CH
      generalize hht : hasT ks k = ht at *
      have HHT := hide hht
      clear hL hbr hbr2 hlk hks hkl hfl hht hwl2
      generalize hnk : (L.lev k).length = nk at *
      have HNK := hide hnk
      clear hnk
      by_cases hf : L.fan ≤ nk
      · have hd2 : decide ((L.fan : Int) ≤ (nk : Int)) = true := decide_eq_true (by omega)
        cases ht
        · have HON : Hid (layOne L.fan (fun i => (L.lev i).length) ks k = ks.set (k % ks.length) ⟨(ks.getD (k % ks.length) wk0).list ++ [k], (ks.getD (k % ks.length) wk0).runs, (ks.getD (k % ks.length) wk0).read⟩) := by
            show _ = _
            unfold layOne
            rw [if_pos ⟨by show L.fan ≤ (L.lev k).length; rw [HNK.out]; exact hf, HHT.out⟩]
          have hrem : (k : Int) % (L.wks.length : Int) = ((k % L.wks.length : Nat) : Int) := by omega
          have hq : k % L.wks.length < L.wks.length := Nat.mod_lt _ hw.1
          rw [HKL.out] at HON
          generalize hqq : k % L.wks.length = q at *
          have HQQ := hide hqq
          clear hqq
          generalize hnw : L.wks.length = nw at *
          have HNW := hide hnw
          clear hnw
          go_upto_region 4 with (first | (go_at_call 247; refine CH.out.mono ?_; rintro e W2 ⟨rfl, hb2⟩; have HB2 := hide hb2; obtain ⟨m0, m1, m2, m3⟩ := HC.out W2 hb2; clear hb2))
          have e8 := cell_regrown m0
          have e1 := cell_regrown m1
          refine wp_region_quiet_below (by kernel_rfl) (by kernel_rfl) ?_
          repeat (go_big_quiet_step (fail))
          refine wpQuiet_nil ?_
          intro _ hw'
          obtain ⟨⟨dq, osq⟩, hw''⟩ := hw'
          subst hw''
          have hb3 : Below wr.heap.size wr (Sort.grow (redrawn W2 dq) osq) := HB2.out.trans ((below_regrown W2 dq osq).mono HB2.out.size)
          generalize Sort.grow (redrawn W2 dq) osq = w3 at *
          clear e8 e1 m0 m1 m2 m3
          obtain ⟨m0, m1, m2, m3⟩ := HC.out w3 hb3
          have hL3 := HL.out.below hb3
          obtain ⟨aw, cw, hwv, hcw, hcm⟩ := own_slice hL3.row
          have hrow3 := hL3.row
          rw [hwv] at hrow3 m3
          obtain ⟨g, rfl⟩ := own_some hrow3 (by omega)
          obtain ⟨r0, _, _⟩ := wkRs_at (ks := ks) (wl := wl) (rd := V.rd) (q := q) (by rw [HKL.out]; exact hq)
          have k0 := own_get hrow3 r0
          have hol := hL3.lst q hq
          obtain ⟨al2, cl2, hvl, hcl, hcm2⟩ := own_slice hol
          have HOL := hide hol
          have hflq := HFL.out q hq
          have hndq := HND.out q hq
          have hszw : B ≤ w3.heap.size := Nat.le_trans hB (Nat.le_trans HL.out.tch.size hb3.size)
          have FN : Hid (∀ W5 v5, (w3.alloc (Obj.cells #[iV k] 3)).grownBy W5 (wl q).ownBlock → W5.ownsRow B 3 1 v5 ((ks.getD q wk0).list.length + 1) ((ks.getD q wk0).list.map iV ++ [iV k]) → (v5.ownBlock = (wl q).ownBlock ∨ v5.ownBlock = some (w3.alloc (Obj.cells #[iV k] 3)).heap.size) → (W5.cell? ⟨cb, 15, none⟩ = some (.slice (some ⟨g, 0, none⟩) nw cw) ∧ W5.cell? ⟨g, q * 3, none⟩ = some (wl q) ∧ W5.frozen? ⟨g, q * 3, none⟩ = false) ∧ ∃ wl', DuI w (W5.setCell ⟨g, q * 3, none⟩ v5) B V nw wl' (layTo L.fan (fun i => (L.lev i).length) L.wks (k + 1))) := by
            intro W5 v5 g5 o5 n5
            obtain ⟨h1, h2⟩ := hL3.add hwv hq g5 o5 n5
            have hbc := FB.out w3 wl ks hL3
            have hb5 : W5.heap[cb]? = some (Obj.cells (rfC V L) 234 (0, 0)) := (g5.block cb (by have := (Array.getElem?_eq_some_iff.1 hbc).1; simp; omega) (ty_ne (hL3.lst q hq) hbc (by decide))).trans (((below_allocG w3 _).block cb (Array.getElem?_eq_some_iff.1 hbc).1).trans hbc)
            have hc15 := (cell_of (j := 15) (u := V.wv) hb5 rfl).1
            rw [hwv] at hc15
            refine ⟨⟨hc15, h1⟩, fun p => if p = q then v5 else wl p, ?_⟩
            rw [HNX.out, HON.out]
            exact h2
          unfold maxLen at hcm hcm2
          clear hL3 hrow3 r0 hol hwv HON HNX
          generalize (ks.getD q wk0).list.map iV = xl at *
          generalize (ks.getD q wk0).list.length = nl at *
          generalize wl q = vl at *
          subst hvl
          generalize hkk : layTo L.fan (fun i => (L.lev i).length) L.wks (k + 1) = kk at *
          have HKK := hide hkk
          clear hkk
          have b3 := below_allocG w3 (Obj.cells #[.int .i64 (k : Int)] 3)
          have k0' := (b3.cell (p := ⟨g, q * 3, none⟩) (World.block_lt_of_cell? _ _ k0)).trans k0
          have m3' := (b3.cell (p := ⟨cb, 15, none⟩) (World.block_lt_of_cell? _ _ m3)).trans m3
          clear b3
          go_upto_region 6 with fail
          go_region_law (refine step_own_at _ rfl _ _ 149 rfl B 3 u0 (.int .i64 0) 1 8 Tryz.underlying149 hu0 hv0 hv1 hv2 rfl (by decide) _ _ _ rfl (by exact HOL.out.alloc _) ⟨w3.heap.size, 0, none⟩ 1 1 [iV k] rfl rfl (by exact cells_new w3.drew _ _ _ rfl) (by intro u hu; simp at hu; subst hu; rfl) (by unfold maxLen; omega) (by omega) (by simp; omega) ?_; intro v5 W5 o5 g5 n5; have g6 : (w3.alloc (Obj.cells #[iV k] 3)).grownBy W5 (Value.slice al2 nl cl2).ownBlock := ⟨g5.os, g5.tape, g5.output, g5.size, g5.block⟩; obtain ⟨⟨fa, fb, ff⟩, hla⟩ := FN.out W5 v5 g6 o5 n5; have HLA := hide hla; obtain ⟨a5, c5, rfl, _, _⟩ := own_slice o5; clear o5 g5 g6 n5 hla)
          all_goals (
            go_wp2
            go_roundw
            case rel => obtain ⟨wl', h'⟩ := HLA.out; exact ⟨k + 1, by omega, by go_num, wl', by rw [HKK.out]; exact h'⟩
            case measure => simp [intOf]; omega)
        · have HNO : Hid (layTo L.fan (fun i => (L.lev i).length) L.wks (k + 1) = ks) := by show _ = _; rw [HNX.out, layOne_no (Or.inr HHT.out)]
          go_upto_region 4 with (first | (go_at_call 247; refine CH.out.mono ?_; rintro e W2 ⟨rfl, hb2⟩; have HB2 := hide hb2; obtain ⟨m0, m1, m2, m3⟩ := HC.out W2 hb2; clear hb2))
          have e8 := cell_regrown m0
          have e1 := cell_regrown m1
          refine wp_region_quiet_below (by kernel_rfl) (by kernel_rfl) ?_
          repeat (go_big_quiet_step (fail))
          refine wpQuiet_nil ?_
          intro _ hw'
          obtain ⟨⟨dq, osq⟩, hw''⟩ := hw'
          subst hw''
          have hb3 : Below wr.heap.size wr (Sort.grow (redrawn W2 dq) osq) := HB2.out.trans ((below_regrown W2 dq osq).mono HB2.out.size)
          generalize Sort.grow (redrawn W2 dq) osq = w3 at *
          clear e8 e1 m0 m1 m2 m3
          have HL3 := hide (HL.out.below hb3)
          clear hb3
          go_wp2
          go_roundw
          case rel => exact ⟨k + 1, by omega, by go_num, wl, by rw [HNO.out]; exact HL3.out⟩
          case measure => simp [intOf]; omega
      · have hd2 : decide ((L.fan : Int) ≤ (nk : Int)) = false := decide_eq_false (by omega)
        have HNO : Hid (layTo L.fan (fun i => (L.lev i).length) L.wks (k + 1) = ks) := by show _ = _; rw [HNX.out, layOne_no (Or.inl (by show ¬ L.fan ≤ (L.lev k).length; rw [HNK.out]; exact hf))]
        go_upto_region 4 with (first | (go_at_call 247; refine CH.out.mono ?_; rintro e W2 ⟨rfl, hb2⟩; have HB2 := hide hb2; obtain ⟨m0, m1, m2, m3⟩ := HC.out W2 hb2; clear hb2))
        have e8 := cell_regrown m0
        have e1 := cell_regrown m1
        refine wp_region_quiet_below (by kernel_rfl) (by kernel_rfl) ?_
        repeat (go_big_quiet_step (fail))
        refine wpQuiet_nil ?_
        intro _ hw'
        obtain ⟨⟨dq, osq⟩, hw''⟩ := hw'
        subst hw''
        have hb3 : Below wr.heap.size wr (Sort.grow (redrawn W2 dq) osq) := HB2.out.trans ((below_regrown W2 dq osq).mono HB2.out.size)
        generalize Sort.grow (redrawn W2 dq) osq = w3 at *
        clear e8 e1 m0 m1 m2 m3
        have HL3 := hide (HL.out.below hb3)
        clear hb3
        go_wp2
        go_roundw
        case rel => exact ⟨k + 1, by omega, by go_num, wl, by rw [HNO.out]; exact HL3.out⟩
        case measure => simp [intOf]; omega
    · have hke : k = 5 := by omega
      subst hke
      have HLL := hide hL
      clear hL
      go_wp2_with fail
      go_end0
      exact ⟨rfl, _, HLL.out⟩
end Go.Proofs.YtkncboinfcnklaaGreatDoor.Rl
