import Derived.Test.YtkncboinfcnklaaGreatDoorKL
namespace Go.Proofs.YtkncboinfcnklaaGreatDoor.Kp
open Go.RowKit Go.Deep Go.Shelf Go.Proofs.YtkncboinfcnklaaGreatDoor.Mth

theorem foC_off : ∀ {l : List Fo} {k : Nat}, k < l.length → (l.flatMap foC).set (k * 4 + 3) (.bool false) = (l.set k ⟨(l.getD k fo0).num, (l.getD k fo0).word, (l.getD k fo0).next, false⟩).flatMap foC
  | g :: l, 0, _ => by simp [foC]
  | g :: l, k + 1, h => by
    have ih := foC_off (l := l) (k := k) (by simpa using h)
    have e3 : (k + 1) * 4 + 3 = (k * 4 + 3) + 4 := by omega
    rw [e3, List.flatMap_cons, List.set_cons_succ, List.flatMap_cons, List.getD_cons_succ, ← ih]
    simp [foC]
theorem ShM.toff {w : World} {ρ : Nat → Nat} {B N lb sb g c : Nat} {G : Gh} {L : Lg} {C : Array Value} {all : List Ent} {tls : List Fo} {av : Value} (hl : LogAt w ρ B N lb G L) (h : ShM w ρ B sb C all tls av (.slice (some ⟨g, 0, none⟩) tls.length c)) (hB : B ≤ w.heap.size) {i : Nat} (hi : i < tls.length) :
    LogAt (w.setCell ⟨g, i * 4 + 3, none⟩ (.bool false)) ρ B N lb G L ∧ ShM (w.setCell ⟨g, i * 4 + 3, none⟩ (.bool false)) ρ B sb C all (tls.set i ⟨(tls.getD i fo0).num, (tls.getD i fo0).word, (tls.getD i fo0).next, false⟩) av (.slice (some ⟨g, 0, none⟩) tls.length c) ∧ Below B w (w.setCell ⟨g, i * 4 + 3, none⟩ (.bool false)) := by
  have hT : Tch (fun k => k = g) w (w.setCell ⟨g, i * 4 + 3, none⟩ (.bool false)) := ⟨rfl, rfl, rfl, by simp, fun k _ hne => set_other hne⟩
  obtain ⟨hgB, hgl, D, hD⟩ := own_block h.trow (g := g) rfl
  have hgs : sb ≠ g := fun e => by
    rw [← e] at hD
    exact absurd (cells_ty h.blk hD) (by decide)
  have hrow := own_store (y := .bool false) h.trow (i := i * 4 + 3) (by omega)
  rw [foC_off hi] at hrow
  refine ⟨off hl hT (fun k _ e => by rw [e]; exact ⟨h.rt g rfl, notN' hD (by decide)⟩), ⟨(hT.block sb (Array.getElem?_eq_some_iff.1 h.blk).1 hgs).trans h.blk, own_same h.row (fun k hk => hT.block k (own_block h.row hk).2.1 (fun e => ?_)), by rw [List.length_set]; exact hrow, h.rs, h.ra, h.rt, h.ge⟩, below_tch (Below.refl B w) hT (fun k e => by rw [e]; exact hgB) hB⟩
  obtain ⟨_, _, D', hD'⟩ := own_block h.row hk
  rw [e] at hD'
  exact absurd (cells_ty hD hD') (by decide)
/-- One who follows goes. -/
theorem TlR.gone {L L' : Lg} {tls : List Fo} {n i : Nat} (h : TlR L tls n) (hi : i < tls.length) (h1 : ∀ z, L'.tls z = if z = (i : Int) then none else L.tls z) (h2 : L'.subs = L.subs) (h3 : L'.tn ≤ 4) : TlR L' (tls.set i ⟨(tls.getD i fo0).num, (tls.getD i fo0).word, (tls.getD i fo0).next, false⟩) n := by
  refine ⟨fun j hj => ?_, fun j hj => ?_, fun x hx => ?_, by rw [List.length_set, h2]; exact h.subs, h3⟩
  · rw [List.length_set] at hj
    rw [getD_setF tls _ j hi]
    by_cases e : j = i
    · rw [if_pos e, e]; exact h.num i hi
    · rw [if_neg e]; exact h.num j hj
  · rw [List.length_set] at hj
    rw [getD_setF tls _ j hi, h1]
    by_cases e : j = i
    · rw [if_pos e, if_pos (by omega)]; rfl
    · rw [if_neg e, if_neg (by omega)]; exact h.at_ j hj
  · rw [List.length_set] at hx
    rw [h1, if_neg (by omega)]
    exact h.out x hx

/-- What Unsubscribe leaves of a shelf. -/
theorem unsub_sh {w : World} {ρ : Nat → Nat} {B N M lb sb hb g c : Nat} {G : Gh} {L : Lg} {all : List Ent} {tls : List Fo} {av : Value} (h : Sh w ρ B N M lb sb hb G L all tls av (.slice (some ⟨g, 0, none⟩) tls.length c)) (hB : B ≤ w.heap.size) {i : Nat} (hi : i < tls.length) (hM : M ≤ 400000) :
    Calls Tryz.prog 87 #[ptrV lb, .int .i64 (i : Int)] w fun e w' => ∃ r : Int, e = .returned (.int .i64 r) ∧ ((r == 0) = (tls.getD i fo0).there) ∧ w'.cell? ⟨sb, 0, none⟩ = some (ptrV lb) ∧ w'.cell? ⟨sb, 12, none⟩ = some (.slice (some ⟨g, 0, none⟩) tls.length c) ∧ w'.cell? ⟨g, i * 4, none⟩ = some (.int .i64 (i : Int)) ∧ w'.cell? ⟨sb, 13, none⟩ = some (.bool true) ∧ w'.frozen? ⟨sb, 13, none⟩ = false ∧ w'.cell? ⟨g, i * 4 + 3, none⟩ = some (.bool (tls.getD i fo0).there) ∧ (w'.setCell ⟨sb, 13, none⟩ (.bool true)).cell? ⟨sb, 12, none⟩ = some (.slice (some ⟨g, 0, none⟩) tls.length c) ∧ (w'.setCell ⟨sb, 13, none⟩ (.bool true)).cell? ⟨g, i * 4 + 3, none⟩ = some (.bool (tls.getD i fo0).there) ∧ (w'.setCell ⟨sb, 13, none⟩ (.bool true)).frozen? ⟨g, i * 4 + 3, none⟩ = false ∧ Mvd w ((w'.setCell ⟨sb, 13, none⟩ (.bool true)).setCell ⟨g, i * 4 + 3, none⟩ (.bool false)) B (N + 1) (M + 1) lb sb hb := by
  have hbud := h.bud
  have hat := h.tl.at_ i hi
  have key : ∀ (w' : World) (L' : Lg), LogAt w' ρ B N lb G L' → ShM w' ρ B sb (shC lb hb L' av (.slice (some ⟨g, 0, none⟩) tls.length c)) all tls av (.slice (some ⟨g, 0, none⟩) tls.length c) → Below B w w' → Inv L' all → TlR L' (tls.set i ⟨(tls.getD i fo0).num, (tls.getD i fo0).word, (tls.getD i fo0).next, false⟩) all.length → w'.cell? ⟨sb, 0, none⟩ = some (ptrV lb) ∧ w'.cell? ⟨sb, 12, none⟩ = some (.slice (some ⟨g, 0, none⟩) tls.length c) ∧ w'.cell? ⟨g, i * 4, none⟩ = some (.int .i64 (i : Int)) ∧ w'.cell? ⟨sb, 13, none⟩ = some (.bool true) ∧ w'.frozen? ⟨sb, 13, none⟩ = false ∧ w'.cell? ⟨g, i * 4 + 3, none⟩ = some (.bool (tls.getD i fo0).there) ∧ (w'.setCell ⟨sb, 13, none⟩ (.bool true)).cell? ⟨sb, 12, none⟩ = some (.slice (some ⟨g, 0, none⟩) tls.length c) ∧ (w'.setCell ⟨sb, 13, none⟩ (.bool true)).cell? ⟨g, i * 4 + 3, none⟩ = some (.bool (tls.getD i fo0).there) ∧ (w'.setCell ⟨sb, 13, none⟩ (.bool true)).frozen? ⟨g, i * 4 + 3, none⟩ = false ∧ Mvd w ((w'.setCell ⟨sb, 13, none⟩ (.bool true)).setCell ⟨g, i * 4 + 3, none⟩ (.bool false)) B (N + 1) (M + 1) lb sb hb := by
    intro w' L' hl hm hBw hI hTL
    obtain ⟨a1, a2, a3⟩ := ShM.set hl hm 13 (.bool true)
    rw [shC_fine] at a2
    have hB' : B ≤ w'.heap.size := Nat.le_trans hB hBw.size
    have hB13 := a3 hB'
    obtain ⟨b1, b2, b3⟩ := ShM.toff a1 a2 (Nat.le_trans hB' hB13.size) hi
    obtain ⟨f1, f2, f3, f4⟩ := foC_at hi
    rw [(h.tl.num i hi).1] at f1
    have hc : tls.length ≤ c := by
      obtain ⟨_, c', e, hc, _⟩ := own_slice h.mem.trow
      injection e with _ _ e
      omega
    exact ⟨(cell_of (j := 0) hm.blk rfl).1, (cell_of (j := 12) hm.blk rfl).1, own_get hm.trow f1, (cell_of (j := 13) hm.blk rfl).1, (cell_of (j := 13) (u := .bool true) hm.blk rfl).2, own_get hm.trow f4, (cell_of (j := 12) a2.blk rfl).1, own_get a2.trow f4, (own_there a2.trow (j := i * 4 + 3) (by omega)).2, L', all, _, N, by omega, ⟨ρ, G, _, _, b1, b2, hI, h.left, ⟨by omega, by omega, by rw [List.length_set]; omega⟩, hTL⟩, hBw.trans (hB13.trans b3)⟩
  cases hth : (tls.getD i fo0).there with
  | false =>
    rw [hth, if_neg (by decide)] at hat
    refine (unsub_no h.log.x (wf_nat (by omega)) hat).mono ?_
    rintro e w' ⟨rfl, hb'⟩
    have := key w' L (h.log.below hb') (h.mem.below hb') (belowB hb' hB) h.inv (h.tl.gone hi (fun z => by by_cases e : z = (i : Int); rw [if_pos e, e]; exact hat; rw [if_neg e]) rfl h.tl.few)
    rw [hth] at this
    exact ⟨8, rfl, rfl, this⟩
  | true =>
    rw [hth, if_pos rfl] at hat
    refine (unsub_yes h.log (wf_nat (by omega)) hat).mono ?_
    rintro e w' ⟨rfl, hT⟩
    have hI : Inv { L with tls := fun y => if y = (i : Int) then none else L.tls y, tn := L.tn - 1 } all := h.inv.tail (subs' := L.subs) (fun x q hq => by
      by_cases e : x = (i : Int)
      · rw [if_pos e] at hq; cases hq
      · rw [if_neg e] at hq
        exact ⟨h.inv.plc x q hq, Or.inr ⟨q, hq, Nat.le_refl _⟩⟩)
    have hfew := h.tl.few
    have := key w' _ hT.log (h.mem.keep hT.stp) (below_lstp (Below.refl B w) hT.stp h.log.x.lt hB) hI (h.tl.gone hi (fun z => rfl) rfl (by show L.tn - 1 ≤ 4; omega))
    rw [hth] at this
    exact ⟨0, rfl, rfl, this⟩

set_option maxRecDepth 100000 in
set_option maxHeartbeats 2000000 in
theorem mv_unsub {w : World} {ρ : Nat → Nat} {B N M lb sb hb : Nat} {G : Gh} {L : Lg} {all : List Ent} {tls : List Fo} {av tv : Value} (h : Sh w ρ B N M lb sb hb G L all tls av tv) (hB : B ≤ w.heap.size) (k a b : Int) (s : ByteArray) (hk : I64 k) (ha : I64 a) (hp : pkI k 11 = 8) (h0 : 0 < tls.length) (hM : M ≤ 400000) :
    Calls Tryz.prog 48 #[ptrV sb, mvV k a b s] w fun e w' => e = .returned (.tuple #[]) ∧ Mvd w w' B (N + 1) (M + 1) lb sb hb := by
  obtain ⟨g, c, rfl, hc, hm, _⟩ := h.fol h0
  have hb1 := below_allocG w (mvO k a b s)
  have hk1 := new_blk w #[.int .i64 k, .int .i64 a, .int .i64 b, .string s] 118
  have CK := hide (pick_any k 11 (w.alloc (mvO k a b s)) hk.1 hk.2 (by omega) (by omega))
  have hbud := h.bud
  have CKa : Hid (∀ W, Calls Tryz.prog 47 #[.int .i64 a, .int .i64 (tls.length : Int)] W fun e w' => e = .returned (.int .i64 (pkI a (tls.length : Int))) ∧ w' = W) := fun W => pick_any a (tls.length : Int) W ha.1 ha.2 (by omega) (by omega)
  have hbd := pkI_bd a (tls.length : Int) (by omega)
  have hB1 := belowB hb1 hB
  obtain ⟨q, hq⟩ : ∃ q : Nat, pkI a (tls.length : Int) = (q : Int) := ⟨(pkI a (tls.length : Int)).toNat, by omega⟩
  rw [hq] at CKa hbd
  have hqn : q < tls.length := by omega
  have h1 := h.below hb1
  obtain ⟨w1, hw1⟩ : ∃ w1, w1 = w.alloc (mvO k a b s) := ⟨_, rfl⟩
  obtain ⟨nb, hnb⟩ : ∃ nb, nb = w.heap.size := ⟨_, rfl⟩
  rw [← hw1] at hk1 CK hb1 hB1 h1
  rw [← hnb] at hk1
  have CS : Hid (∀ W, Below w1.heap.size w1 W → W.cell? ⟨sb, 0, none⟩ = some (ptrV lb) ∧ W.cell? ⟨sb, 12, none⟩ = some (.slice (some ⟨g, 0, none⟩) tls.length c) ∧ W.cell? ⟨g, q * 4, none⟩ = some (.int .i64 (q : Int)) ∧ Calls Tryz.prog 87 #[ptrV lb, .int .i64 (q : Int)] W fun e w' => ∃ r : Int, e = .returned (.int .i64 r) ∧ ((r == 0) = (tls.getD q fo0).there) ∧ w'.cell? ⟨sb, 0, none⟩ = some (ptrV lb) ∧ w'.cell? ⟨sb, 12, none⟩ = some (.slice (some ⟨g, 0, none⟩) tls.length c) ∧ w'.cell? ⟨g, q * 4, none⟩ = some (.int .i64 (q : Int)) ∧ w'.cell? ⟨sb, 13, none⟩ = some (.bool true) ∧ w'.frozen? ⟨sb, 13, none⟩ = false ∧ w'.cell? ⟨g, q * 4 + 3, none⟩ = some (.bool (tls.getD q fo0).there) ∧ (w'.setCell ⟨sb, 13, none⟩ (.bool true)).cell? ⟨sb, 12, none⟩ = some (.slice (some ⟨g, 0, none⟩) tls.length c) ∧ (w'.setCell ⟨sb, 13, none⟩ (.bool true)).cell? ⟨g, q * 4 + 3, none⟩ = some (.bool (tls.getD q fo0).there) ∧ (w'.setCell ⟨sb, 13, none⟩ (.bool true)).frozen? ⟨g, q * 4 + 3, none⟩ = false ∧ Mvd w ((w'.setCell ⟨sb, 13, none⟩ (.bool true)).setCell ⟨g, q * 4 + 3, none⟩ (.bool false)) B (N + 1) (M + 1) lb sb hb) := by
    intro W hb'
    have hW := h1.below hb'
    have hBW : Below B w W := hB1.trans (belowB hb' (Nat.le_trans hB hB1.size))
    obtain ⟨f1, f2, f3, f4⟩ := foC_at hqn
    rw [(h.tl.num q hqn).1] at f1
    refine ⟨(hW.cell (j := 0) rfl).1, (hW.cell (j := 12) rfl).1, own_get hW.mem.trow f1, (unsub_sh hW (Nat.le_trans hB hBW.size) hqn hM).mono ?_⟩
    rintro e w' ⟨r, rfl, x1, x2, x3, x4, x5, x6, x7, x8, x9, x10, L', all', tls', N', hN', hx⟩
    exact ⟨r, rfl, x1, x2, x3, x4, x5, x6, x7, x8, x9, x10, L', all', tls', N', hN', hx.pre hBW⟩
  obtain ⟨c0, _⟩ := cell_of (j := 0) (u := .int .i64 k) hk1 rfl
  obtain ⟨c1, _⟩ := cell_of (j := 1) (u := .int .i64 a) hk1 rfl
  obtain ⟨d12, _⟩ := h1.cell (j := 12) (u := .slice (some ⟨g, 0, none⟩) tls.length c) rfl
  have h0I : (0 : Int) < (tls.length : Int) := by omega
  have hqI : (q : Int) < (tls.length : Int) := by omega
  have HW1 := hide hw1
  have HNB := hide hnb
  unfold maxLen at hm
  clear h h1 hb1 hk1 hB1 hw1 hnb hq
  rw [hp] at CK
  clear hp
  generalize (tls.getD q fo0).there = th at *
  generalize tls.length = nw at *
  go_enter Tryz.func48, Tryz.ntmps48
  go_upto_region 1 with fail
  rw [← HW1.out, ← HNB.out]
  go_upto_region 24 with (first
    | (go_at_call 47; refine CK.out.mono ?_; rintro e w' ⟨rfl, hw'⟩; rw [hw']; clear hw' w'))
  go_region_held3 (fun w' => w'.cell? ⟨sb, 12, none⟩ = some (.slice (some ⟨g, 0, none⟩) nw c) ∧ w'.cell? ⟨nb, 1, none⟩ = some (.int .i64 a)) (first | exact ⟨d12, c1⟩ | fail)
    (first | (go_at_call 47; refine (CKa.out _).mono ?_; rintro e w' ⟨rfl, hw'⟩; rw [hw']; clear hw' w'))
  obtain ⟨m0, m12, mg, hcs⟩ := CS.out w1.drew.drew ((drewB w1).trans ((drewB w1.drew).mono (Nat.le_refl _)))
  have HCS := hide hcs
  have p0 : w1.drew.cell? ⟨sb, 0, none⟩ = some (ptrV lb) := m0
  have p12 : w1.drew.cell? ⟨sb, 12, none⟩ = some (.slice (some ⟨g, 0, none⟩) nw c) := m12
  have pg : w1.drew.cell? ⟨g, q * 4, none⟩ = some (.int .i64 (q : Int)) := mg
  clear hcs CS
  go_upto_region 25 with fail
  go_region_held3 (fun w' => w'.cell? ⟨sb, 0, none⟩ = some (ptrV lb) ∧ w'.cell? ⟨sb, 12, none⟩ = some (.slice (some ⟨g, 0, none⟩) nw c) ∧ w'.cell? ⟨g, q * 4, none⟩ = some (.int .i64 (q : Int))) (first | exact ⟨m0, m12, mg⟩ | exact ⟨n0, n12, ng⟩ | fail)
    (first | (go_at_call 87; refine HCS.out.mono ?_; rintro e w3 ⟨r, rfl, hr, n0, n12, ng, n13, f13, n3, s12, s3, sf3, hx⟩; have HX := hide hx; clear hx))
  cases th with
  | false =>
    go_wp2_with fail
    all_goals first
      | (exfalso; rename_i q1; simp at hr; done)
      | (go_end0; exact ⟨rfl, HX.out⟩)
  | true =>
    go_wp2_with fail
    all_goals first
      | (exfalso; rename_i q1; simp at hr; done)
      | (go_end0; exact ⟨rfl, HX.out⟩)
end Go.Proofs.YtkncboinfcnklaaGreatDoor.Kp
