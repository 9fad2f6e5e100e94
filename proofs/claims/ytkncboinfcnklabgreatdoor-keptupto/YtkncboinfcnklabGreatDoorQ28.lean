import Derived.Test.YtkncboinfcnklabGreatDoorQ27
import Derived.Test.YtkncboinfcnklabGreatDoorQ22
namespace Go.Proofs.YtkncboinfcnklabGreatDoor.Kp
open Go.RowKit Go.Deep Go.Shelf Go.Proofs.YtkncboinfcnklabGreatDoor.Mth

/-- What a Poll leaves of a log. -/
def Lg.poll (L : Lg) (i : Nat) (y : ByteArray) (t : Nat) : Lg := { L with tls := fun z => if z = (i : Int) then some (y, t) else L.tls z }
theorem Inv.poll {L : Lg} {all : List Ent} (h : Inv L all) {i p t : Nat} {y : ByteArray} (hp : L.tls (i : Int) = some (y, p)) (h1 : p ≤ t) (h2 : t ≤ all.length) : Inv (Lg.poll L i y t) all := by
  refine h.tail (tn' := L.tn) (subs' := L.subs) (fun x q hq => ?_)
  by_cases e : x = (i : Int)
  · rw [if_pos e] at hq
    injection hq with hq
    subst hq
    exact ⟨by rw [h.cnt]; exact h2, Or.inr ⟨(y, p), by rw [e]; exact hp, h1⟩⟩
  · rw [if_neg e] at hq
    exact ⟨h.plc x q hq, Or.inr ⟨q, hq, Nat.le_refl _⟩⟩
/-- The number in a cell. -/
def cellN (w : World) (nb : Nat) : Nat := ((w.cell? ⟨nb, 2, none⟩).map (fun v => (intOf v).toNat)).getD 0
/-- The place of a follower behind a Poll. -/
def nxt (all : List Ent) (y : ByteArray) (p b : Nat) : Nat := plc (tld (hsW y) all p b) b all.length

set_option maxRecDepth 100000 in
set_option maxHeartbeats 4000000 in
theorem polls_yes {w : World} {ρ : Nat → Nat} {B N M lb sb hb : Nat} {G : Gh} {L : Lg} {all : List Ent} {tls : List Fo} {av tv : Value} (h : Sh w ρ B N M lb sb hb G L all tls av tv) (hB : B ≤ w.heap.size) {i : Nat} (hi : i < tls.length) (hth : (tls.getD i fo0).there = true) (hM : M ≤ 400000) (hN : N ≤ 1099511627776) :
    Calls Tryz.prog 20 #[ptrV sb, .int .i64 (i : Int)] w fun e w' => e = .returned (.tuple #[]) ∧ ShX w w' B (N + 1) M lb sb hb (Lg.poll L i (tls.getD i fo0).word (nxt all (tls.getD i fo0).word (tls.getD i fo0).next L.batch)) all (tls.set i ⟨i, (tls.getD i fo0).word, nxt all (tls.getD i fo0).word (tls.getD i fo0).next L.batch, true⟩) := by
  obtain ⟨g, c, rfl, hc, hm, q0, q1, q2, q3⟩ := h.fol hi
  have hat := h.tl.at_ i hi
  have hbd := h.bud
  rw [hth] at q3 hat
  rw [if_pos rfl] at hat
  rw [(h.tl.num i hi).1] at q0
  obtain ⟨c12, _⟩ := h.cell (j := 12) (u := .slice (some ⟨g, 0, none⟩) tls.length c) rfl
  have hyw := wds_wd (h.tl.num i hi).2.1
  have hpn := (h.tl.num i hi).2.2
  have hyy : (tls.getD i fo0).word = (tls.getD i fo0).word := rfl
  have hnm := (h.tl.num i hi).1
  generalize hy : (tls.getD i fo0).word = y at *
  generalize hnx' : (tls.getD i fo0).next = p at *
  have HF4 : Hid ((tls.getD i fo0).num = i ∧ (tls.getD i fo0).word = y ∧ (tls.getD i fo0).next = p ∧ (tls.getD i fo0).there = true) := ⟨hnm, hy, hnx', hth⟩
  clear hnm hnx'
  have hb1 := below_allocG w (Obj.cells #[.int .i64 (i : Int), .string y, .int .i64 (p : Int), .bool true] 60)
  have hk1 := new_blk w #[.int .i64 (i : Int), .string y, .int .i64 (p : Int), .bool true] 60
  obtain ⟨w1, hw1⟩ : ∃ w1, w1 = w.alloc (Obj.cells #[.int .i64 (i : Int), .string y, .int .i64 (p : Int), .bool true] 60) := ⟨_, rfl⟩
  obtain ⟨nb, hnb⟩ : ∃ nb, nb = w.heap.size := ⟨_, rfl⟩
  rw [← hw1] at hb1 hk1
  rw [← hnb] at hk1
  have h1 := h.below hb1
  have hnlt : nb < w1.heap.size := (Array.getElem?_eq_some_iff.1 hk1).1
  have hrn : ρ nb = 0 := h.log.free (by omega)
  have hcf := h.inv.cfg
  have htold := h.inv.told hat L.batch
  have hsegs : ∀ es ∈ segs L.lev ++ [L.mem], es.length ≤ 1048576 ∧ Sqs es := fun es hes => by
    have hsub : es.Sublist all := by
      rcases List.mem_append.1 hes with q | q
      · exact h.inv.segSub q
      · rw [List.mem_singleton.1 q]; exact h.inv.memSub
    exact ⟨by have := hsub.length_le; omega, h.inv.sqsOf hsub⟩
  have CP : Hid (∀ W, Below w1.heap.size w1 W → Calls Tryz.prog 42 #[ptrV lb, .int .i64 (i : Int)] W fun e w' => ∃ v, e = .returned (.tuple #[v, .int .i64 0]) ∧ TStp W w' ρ B (N + 1) lb G (Lg.poll L i y (nxt all y p L.batch)) ∧ w'.ownsRow W.heap.size 49 3 v (tld (hsW y) all p L.batch).length ((tld (hsW y) all p L.batch).flatMap eC)) := by
    intro W hb'
    have := poll_yes (h1.below hb').log (wf_nat (by omega : i ≤ 1000000000000)) hat (by unfold maxLen; omega) hcf.2.2.2.2.1.1 hcf.2.2.2.2.1.2 (fun k hk => by have := h.inv.lev k hk; omega) hsegs (by unfold maxLen; omega) (by
      intro e he
      rw [htold] at he
      have := h.inv.toldSeq e he
      omega)
    rw [htold, show plc (tld (hsW y) all p L.batch) L.batch L.count = nxt all y p L.batch from by unfold nxt; rw [h.inv.cnt]] at this
    exact this
  have hdone := fun t (ht : PI (hsW y) all p L.batch t) he => PI.done h.inv.ok ht he
  have FIN : Hid (∀ w3 wr t v, TStp w1.drew w3 ρ B (N + 1) lb G (Lg.poll L i y (nxt all y p L.batch)) → LpI w3 wr nb i y all p L.batch t → (t = all.length ∨ tkn (hsW y) all p t = L.batch) → ∀ W, W = ((((wr.setCell ⟨g, i * 4, none⟩ (.int .i64 (i : Int))).setCell ⟨g, i * 4 + 1, none⟩ (.string y)).setCell ⟨g, i * 4 + 2, none⟩ (.int .i64 (t : Int))).setCell ⟨g, i * 4 + 3, none⟩ (.bool true)) → v = true → ShX w W.drew B (N + 1) M lb sb hb (Lg.poll L i y (nxt all y p L.batch)) all (tls.set i ⟨i, y, nxt all y p L.batch, true⟩)) := by
    intro w3 wr t v hT hL he W hW _
    obtain ⟨e1, e2⟩ := hdone t hL.pi he
    have hnt : nxt all y p L.batch = t := e1
    rw [hnt] at hT ⊢
    have hm3 := (h1.mem.below (drewB w1)).keep hT.stp
    have hk3 : w3.heap[nb]? = some (Obj.cells #[.int .i64 (i : Int), .string y, .int .i64 (p : Int), .bool true] 60 (0, 0)) := (hT.stp.tch.block nb hnlt (fun q => q.1 hrn)).trans hk1
    have hlr : LogAt wr ρ B (N + 1) lb G (Lg.poll L i y t) := off hT.log hL.tch (fun k _ e => by rw [e]; exact ⟨hrn, notN' hk3 (by decide)⟩)
    have hne : ∀ {k C T fr}, T ≠ 60 → w3.heap[k]? = some (Obj.cells C T fr) → k ≠ nb := fun hT' hk e => by
      rw [e] at hk
      exact hT' (cells_ty hk hk3)
    have hgw : g < w.heap.size := (own_block h.mem.trow (g := g) rfl).2.1
    have hmr : ShM wr ρ B sb (shC lb hb L av (.slice (some ⟨g, 0, none⟩) tls.length c)) all tls av (.slice (some ⟨g, 0, none⟩) tls.length c) := by
      refine ⟨(hL.tch.block sb (Array.getElem?_eq_some_iff.1 hm3.blk).1 (hne (by decide) hm3.blk)).trans hm3.blk, own_same hm3.row (fun k hk => ?_), own_same hm3.trow (fun k hk => ?_), hm3.rs, hm3.ra, hm3.rt, hm3.ge⟩
      · obtain ⟨_, hlt, D, hD⟩ := own_block hm3.row hk
        exact hL.tch.block k hlt (hne (by decide) hD)
      · obtain ⟨_, hlt, D, hD⟩ := own_block hm3.trow hk
        have hkg : k = g := by simpa [Value.ownBlock] using hk
        exact hL.tch.block k hlt (by omega)
    have hB3 : B ≤ wr.heap.size := Nat.le_trans hB (Nat.le_trans hb1.size (Nat.le_trans hT.stp.tch.size hL.tch.size))
    obtain ⟨b1, b2, b3⟩ := ShM.tset hlr hmr hB3 hi ⟨i, y, t, true⟩
    have hBw3 : Below B w w3 := (belowB hb1 hB).trans (below_lstp (Below.refl B _) (LStp.pre (drewB w1) hT.stp) (fun k q => by have := h1.log.x.lt k q; exact this) (Nat.le_trans hB hb1.size))
    have hBwr : Below B w wr := below_tch hBw3 hL.tch (fun k e => by omega) (Nat.le_trans hB hBw3.size)
    have hBW := hBwr.trans b3
    rw [hW]
    refine ⟨⟨ρ, G, av, _, b1.below (drewB _), ShM.below b2 (drewB _), Inv.poll h.inv hat hL.pi.le.1 hL.pi.le.2, h.left, ⟨hbd.1, hbd.2.1, by rw [List.length_set]; exact hbd.2.2⟩, TlR.goOn h.tl hi hy hL.pi.le.2 hth⟩, hBW.trans (belowB (drewB _) (Nat.le_trans hB3 b3.size))⟩
  have FACTS : Hid (∀ w3, TStp w1.drew w3 ρ B (N + 1) lb G (Lg.poll L i y (nxt all y p L.batch)) → w3.heap[nb]? = some (Obj.cells #[.int .i64 (i : Int), .string y, .int .i64 (p : Int), .bool true] 60 (0, 0)) ∧ w3.heap[sb]? = some (Obj.cells (shC lb hb L av (.slice (some ⟨g, 0, none⟩) tls.length c)) 37 (0, 0)) ∧ w3.ownsRow B 49 3 av all.length (all.flatMap eC) ∧ w3.ownsRow B 60 4 (.slice (some ⟨g, 0, none⟩) tls.length c) tls.length (tls.flatMap foC)) := by
    intro w3 hT
    have hm3 := (h1.mem.below (drewB w1)).keep hT.stp
    exact ⟨(hT.stp.tch.block nb hnlt (fun q => q.1 hrn)).trans hk1, hm3.blk, hm3.row, hm3.trow⟩
  obtain ⟨d0, _⟩ := h1.cell (j := 0) (u := ptrV lb) rfl
  obtain ⟨n0, _⟩ := cell_of (j := 0) (u := .int .i64 (i : Int)) hk1 rfl
  have hgnb : g < nb := by rw [hnb]; exact (own_block h.mem.trow (g := g) rfl).2.1
  have hnbw : w.heap.size ≤ nb := by omega
  have htx : ∀ e ∈ all, e.text.size ≤ 60 := fun e he => (h.inv.ok.bd e he).2.2
  have PI0 := hide (PI.start (f := hsW y) (all := all) (b := L.batch) hpn hcf.2.2.2.2.1.1)
  have HDONE : Hid (∀ t, PI (hsW y) all p L.batch t → (t = all.length ∨ tkn (hsW y) all p t = L.batch) → (tld (hsW y) all p L.batch).length = tkn (hsW y) all p t) := fun t ht he => (hdone t ht he).2
  have HW1 := hide hw1
  have HNB := hide hnb
  have HTX := hide htx
  have hb8 := hcf.2.2.2.2.1.2
  unfold maxLen at hm
  have hiI : (i : Int) < (tls.length : Int) := by omega
  obtain ⟨va, vc, hva, hvc, hvm⟩ := own_slice h.mem.row
  unfold maxLen at hvm
  have hln := (tld_len (f := hsW y) (all := all) (p := p) (b := L.batch))
  clear h h1 hb1 hk1 hw1 hnb hat hcf htold hsegs hdone htx hpn hy hyy
  subst hva
  generalize hLP : Lg.poll L i y (nxt all y p L.batch) = LP at *
  generalize hTS : tls.set i ⟨i, y, nxt all y p L.batch, true⟩ = tls' at *
  have HTOLD : Hid (∀ t, p ≤ t → t < all.length → hsW y (all.getD t e0) = true → tkn (hsW y) all p t < L.batch → tkn (hsW y) all p t < (tld (hsW y) all p L.batch).length ∧ (tld (hsW y) all p L.batch).getD (tkn (hsW y) all p t) e0 = all.getD t e0) := fun t a b c d => tld_at a b c d
  have htl8 : (tld (hsW y) all p L.batch).length ≤ 8 := by rw [hln]; omega
  generalize tld (hsW y) all p L.batch = told at *
  clear hln hLP hTS
  go_enter Tryz.func20, Tryz.ntmps20
  go_upto_region 1 with fail
  rw [← HW1.out, ← HNB.out]
  go_region_held3 (fun w' => w'.cell? ⟨sb, 0, none⟩ = some (ptrV lb) ∧ w'.cell? ⟨nb, 0, none⟩ = some (.int .i64 (i : Int))) (first | exact ⟨d0, n0⟩ | exact ⟨m0, m1⟩ | fail)
    (first | (go_at_call 42; refine (CP.out _ (drewB w1)).mono ?_; rintro e w3 ⟨v3, rfl, hT3, ho3⟩; obtain ⟨kn, ks, kr, kt⟩ := FACTS.out w3 hT3; have m0 := (cell_of (j := 0) (u := ptrV lb) ks rfl).1; have m1 := (cell_of (j := 0) (u := .int .i64 (i : Int)) kn rfl).1; have HT3 := hide hT3; have HO3 := hide ho3; have HKN := hide kn; have HKS := hide ks; have HKR := hide kr; have HKT := hide kt; obtain ⟨a3, c3, rfl, hc3, hm3⟩ := own_slice ho3; clear hT3 ho3 kn ks kr kt))
  have LP0 : Hid (LpI w3 w3 nb i y all p L.batch p) := ⟨Tch.refl _ _, HKN.out, PI0.out⟩
  obtain ⟨e3, _⟩ := cell_of (j := 3) (u := .bool true) HKN.out rfl
  have RD : Hid (∀ wr t, LpI w3 wr nb i y all p L.batch t → wr.cell? ⟨nb, 2, none⟩ = some (.int .i64 (t : Int)) ∧ wr.frozen? ⟨nb, 2, none⟩ = false ∧ wr.cell? ⟨nb, 1, none⟩ = some (.string y) ∧ wr.cell? ⟨sb, 8, none⟩ = some (.slice va all.length vc) ∧ wr.cell? ⟨sb, 7, none⟩ = some (.int .i64 (L.batch : Int)) ∧ wr.cell? ⟨sb, 12, none⟩ = some (.slice (some ⟨g, 0, none⟩) tls.length c) ∧ wr.ownsRow B 49 3 (.slice va all.length vc) all.length (all.flatMap eC) ∧ wr.ownsRow w1.heap.size 49 3 (.slice a3 told.length c3) told.length (told.flatMap eC)) := by
    intro wr t hL
    have hsb : sb ≠ nb := fun e => by
      have := HKS.out
      rw [e] at this
      exact absurd (cells_ty this HKN.out) (by decide)
    have hks : wr.heap[sb]? = _ := (hL.tch.block sb (Array.getElem?_eq_some_iff.1 HKS.out).1 hsb).trans HKS.out
    have hr : ∀ {B' n' xs v'}, w3.ownsRow B' 49 3 v' n' xs → wr.ownsRow B' 49 3 v' n' xs := fun hrow => own_same hrow (fun k hk => by
      obtain ⟨_, hlt, D, hD⟩ := own_block hrow hk
      exact hL.tch.block k hlt (fun e => by
        rw [e] at hD
        exact absurd (cells_ty HKN.out hD) (by decide)))
    exact ⟨(cell_of (j := 2) hL.blk rfl).1, (cell_of (j := 2) (u := .int .i64 (t : Int)) hL.blk rfl).2, (cell_of (j := 1) hL.blk rfl).1, (cell_of (j := 8) hks rfl).1, (cell_of (j := 7) hks rfl).1, (cell_of (j := 12) hks rfl).1, hr HKR.out, hr HO3.out⟩
  have HTROW : Hid (∀ wr t, LpI w3 wr nb i y all p L.batch t → wr.cell? ⟨g, i * 4, none⟩ = some (.int .i64 (i : Int)) ∧ wr.cell? ⟨g, i * 4 + 1, none⟩ = some (.string y) ∧ wr.cell? ⟨g, i * 4 + 2, none⟩ = some (.int .i64 (p : Int)) ∧ wr.cell? ⟨g, i * 4 + 3, none⟩ = some (.bool true) ∧ wr.frozen? ⟨g, i * 4, none⟩ = false ∧ wr.frozen? ⟨g, i * 4 + 1, none⟩ = false ∧ wr.frozen? ⟨g, i * 4 + 2, none⟩ = false ∧ wr.frozen? ⟨g, i * 4 + 3, none⟩ = false) := by
    intro wr t hL
    have hgn : g ≠ nb := by omega
    have hrow := own_same HKT.out (w' := wr) (fun k hk => hL.tch.block k (own_block HKT.out hk).2.1 (fun e => by
      have hkg : k = g := by simpa [Value.ownBlock] using hk
      omega))
    obtain ⟨h1, h2, h3, h4⟩ := foC_at hi
    rw [HF4.out.1] at h1
    rw [HF4.out.2.1] at h2
    rw [HF4.out.2.2.1] at h3
    rw [HF4.out.2.2.2] at h4
    have hth' := fun j (hj : j < c * 4) => own_there hrow (j := j) hj
    exact ⟨own_get hrow h1, own_get hrow h2, own_get hrow h3, own_get hrow h4, (hth' _ (by omega)).2, (hth' _ (by omega)).2, (hth' _ (by omega)).2, (hth' _ (by omega)).2⟩
  have SETS : Hid (∀ (wr : World) (a b c' d : Value), ((((wr.setCell ⟨g, i * 4, none⟩ a).setCell ⟨g, i * 4 + 1, none⟩ b).setCell ⟨g, i * 4 + 2, none⟩ c').setCell ⟨g, i * 4 + 3, none⟩ d).drew.cell? ⟨sb, 12, none⟩ = wr.cell? ⟨sb, 12, none⟩ ∧ ∀ j, ((((wr.setCell ⟨g, i * 4, none⟩ a).setCell ⟨g, i * 4 + 1, none⟩ b).setCell ⟨g, i * 4 + 2, none⟩ c').setCell ⟨g, i * 4 + 3, none⟩ d).drew.cell? ⟨nb, j, none⟩ = wr.cell? ⟨nb, j, none⟩) := by
    intro wr a b c' d
    have hgn : nb ≠ g := by omega
    have hgs : sb ≠ g := fun e => by
      obtain ⟨_, _, D, hD⟩ := own_block HKT.out (g := g) rfl
      have := HKS.out
      rw [e] at this
      exact absurd (cells_ty this hD) (by decide)
    refine ⟨World.cell?_of_block (w := wr) (a := ⟨sb, 12, none⟩) ((heap_drew _ _).trans ?_), fun j => World.cell?_of_block (w := wr) (a := ⟨nb, j, none⟩) ((heap_drew _ _).trans ?_)⟩
    · show ((((wr.setCell ⟨g, i * 4, none⟩ a).setCell ⟨g, i * 4 + 1, none⟩ b).setCell ⟨g, i * 4 + 2, none⟩ c').setCell ⟨g, i * 4 + 3, none⟩ d).heap[sb]? = wr.heap[sb]?
      rw [set_other hgs, set_other hgs, set_other hgs, set_other hgs]
    · show ((((wr.setCell ⟨g, i * 4, none⟩ a).setCell ⟨g, i * 4 + 1, none⟩ b).setCell ⟨g, i * 4 + 2, none⟩ c').setCell ⟨g, i * 4 + 3, none⟩ d).heap[nb]? = wr.heap[nb]?
      rw [set_other hgn, set_other hgn, set_other hgn, set_other hgn]
  unfold maxLen at hm3
  clear FACTS CP m0 m1 d0 n0 HKR HO3
  go_wp2_with fail
  go_loopw [7] (fun v wr => ∃ t, v = .int .i64 (tkn (hsW y) all p t : Int) ∧ LpI w3 wr nb i y all p L.batch t) (fun _ wr => all.length - cellN wr nb)
  case atStart => exact ⟨p, by rw [tkn_start]; rfl, LP0.out⟩
  case round =>
    obtain ⟨t, rfl, hL⟩ := hrel
    obtain ⟨r2, f2, r1, r8, r7, r12, ra, ro⟩ := RD.out wr t hL
    have hpt := hL.pi.le
    have hcN : cellN wr nb = t := by unfold cellN; rw [r2]; simp [intOf]
    have hk8 : tkn (hsW y) all p t ≤ L.batch := by rcases hL.pi.or with q | q; omega; omega
    have HL := hide hL
    clear hL
    have r2' := cell_regrown r2
    have r8' := cell_regrown r8
    have r7' := cell_regrown r7
    by_cases hlt : t < all.length ∧ tkn (hsW y) all p t < L.batch
    · obtain ⟨hlt1, hlt2⟩ := hlt
      have hI1 : (t : Int) < (all.length : Int) := by omega
      have hI2 : (tkn (hsW y) all p t : Int) < (L.batch : Int) := by omega
      go_upto_region 6 with fail
      refine wp_region_quiet_below (by kernel_rfl) (by kernel_rfl) ?_
      repeat (go_big_quiet_step (fail))
      refine wpQuiet_nil ?_
      intro _ hw'
      obtain ⟨⟨dq, osq⟩, hw''⟩ := hw'
      subst hw''
      have HL4 := hide (HL.out.below (below_regrown wr dq osq))
      clear r2 r8 r7 r12 ra ro r1 f2 r2' r8' r7' HL
      generalize Sort.grow (redrawn wr dq) osq = w4 at *
      obtain ⟨r2, f2, r1, r8, r7, r12, ra, ro⟩ := RD.out w4 t HL4.out
      obtain ⟨gv, rfl⟩ := own_some ra (by omega)
      obtain ⟨x0, x1, x2⟩ := own_en ra rfl (k := t) hlt1
      have hmem : all.getD t e0 ∈ all := by rw [← List.getElem_eq_getD (h := hlt1)]; exact List.getElem_mem hlt1
      have htx := HTX.out _ hmem
      have hnx := tkn_next (f := hsW y) hpt.1 hlt1
      have hto := HTOLD.out t hpt.1 hlt1
      generalize hE : all.getD t e0 = ee at *
      obtain ⟨es, et, ex⟩ := ee
      simp only at x0 x1 x2 htx
      have CH : Hid (∀ d os, Calls Tryz.prog 13 #[.string ex, .string y] (Sort.grow (redrawn w4 d) os) fun e w'' => e = .returned (.bool (hsW y ⟨es, et, ex⟩)) ∧ ∃ p : Regrown, w'' = Sort.grow (redrawn w4 p.d) p.os) := fun d os => Calls.regrown_of ((has_any ex y (by omega) (by omega) hyw.1 _).mono fun e w' q => ⟨q.1, by rw [q.2]; exact Below.refl _ _⟩)
      have r2' := cell_regrown r2
      have r8' := cell_regrown r8
      have r1' := cell_regrown r1
      have x2' := cell_regrown x2
      have HTO := hide hto
      have HNX := hide hnx
      have hb4 : t < 1000000 := by omega
      have HE := hide hE
      clear hto hnx hmem hE
      generalize hhs : hsW y ⟨es, et, ex⟩ = hbv at *
      go_upto_region 7 with fail
      refine wp_region_quiet_below (by kernel_rfl) (by kernel_rfl) ?_
      repeat (go_big_quiet_step (first | (go_at_call 13; exact CH.out _ _)))
      refine wpQuiet_nil ?_
      intro _ hw'
      obtain ⟨⟨dq2, osq2⟩, hw''⟩ := hw'
      subst hw''
      have HL5 := hide (HL4.out.below (below_regrown w4 dq2 osq2))
      clear r2 r8 r7 r12 ra ro r1 f2 r2' r8' r1' x0 x1 x2 x2' HL4 CH
      generalize Sort.grow (redrawn w4 dq2) osq2 = w5 at *
      have NX : Hid (∀ w6, LpI w3 w6 nb i y all p L.batch t → LpI w3 (w6.setCell ⟨nb, 2, none⟩ (.int .i64 ((t : Int) + 1))) nb i y all p L.batch (t + 1) ∧ cellN (w6.setCell ⟨nb, 2, none⟩ (.int .i64 ((t : Int) + 1))) nb = t + 1) := by
        intro w6 h6
        have h7 := h6.next hlt1 hlt2
        refine ⟨h7, ?_⟩
        have := (cell_of (j := 2) (u := .int .i64 (((t + 1 : Nat) : Int))) h7.blk rfl).1
        unfold cellN
        rw [this]
        simp [intOf]
      obtain ⟨r2, f2, r1, r8, r7, r12, ra, ro⟩ := RD.out w5 t HL5.out
      cases hbv with
      | false =>
        rw [if_neg (by decide), Nat.add_zero] at HNX
        obtain ⟨n1, n2⟩ := NX.out w5 HL5.out
        have HN1 := hide n1
        have HN2 := hide n2
        clear n1 n2 NX HTO HL5 r1 r8 r7 r12 ra ro RD
        go_wp2_with fail
        go_roundw
        case rel => exact ⟨t + 1, by rw [HNX.out]; rfl, HN1.out⟩
        case measure => rw [HN2.out, hcN]; omega
      | true =>
        rw [if_pos rfl] at HNX
        obtain ⟨hk1, hk2⟩ := HTO.out rfl hlt2
        obtain ⟨g3, rfl⟩ := own_some ro (by omega)
        obtain ⟨z0, z1, z2⟩ := own_en ro rfl (k := tkn (hsW y) all p t) hk1
        obtain ⟨x0, x1, x2⟩ := own_en ra rfl (k := t) hlt1
        rw [hk2] at z0 z1 z2
        rw [HE.out] at x0 x1 x2
        simp only at x0 x1 x2 z0 z1 z2
        have hkI : ¬ (told.length : Int) ≤ (tkn (hsW y) all p t : Int) := by omega
        have HHS := hide hhs
        clear hk2 HTO r1 r7 r12 ra ro hhs
        generalize hkk : tkn (hsW y) all p t = kk at *
        have x0' := cell_regrown x0
        have x1' := cell_regrown x1
        have x2' := cell_regrown x2
        have z0' := cell_regrown z0
        have z1' := cell_regrown z1
        have z2' := cell_regrown z2
        have r2' := cell_regrown r2
        have r8' := cell_regrown r8
        clear x0 x1 x2 z0 z1 z2 r8
        go_upto_region 9 with fail
        refine wp_region_quiet_below (by kernel_rfl) (by kernel_rfl) ?_
        repeat (go_big_quiet_step (fail))
        refine wpQuiet_nil ?_
        intro _ hw'
        obtain ⟨⟨dq3, osq3⟩, hw''⟩ := hw'
        subst hw''
        have HL6 := hide (HL5.out.below (below_regrown w5 dq3 osq3))
        clear x0' x1' x2' z0' z1' z2' r2' r8' r2 f2 HL5
        generalize Sort.grow (redrawn w5 dq3) osq3 = w6 at *
        obtain ⟨r2, f2, _⟩ := RD.out w6 t HL6.out
        obtain ⟨n1, n2⟩ := NX.out w6 HL6.out
        have HN1 := hide n1
        have HN2 := hide n2
        clear n1 n2 NX HL6 RD
        go_wp2_with fail
        go_roundw
        case rel => exact ⟨t + 1, by rw [HNX.out]; go_num, HN1.out⟩
        case measure => rw [HN2.out, hcN]; omega
    · have hend : t = all.length ∨ tkn (hsW y) all p t = L.batch := by omega
      by_cases ht : t = all.length
      · have hI1 : ¬ (t : Int) < (all.length : Int) := by omega
        clear ht
        go_upto_region 6 with fail
        refine wp_region_quiet_below (by kernel_rfl) (by kernel_rfl) ?_
        repeat (go_big_quiet_step (fail))
        refine wpQuiet_nil ?_
        intro _ hw'
        obtain ⟨⟨dq, osq⟩, hw''⟩ := hw'
        subst hw''
        have HL4 := hide (HL.out.below (below_regrown wr dq osq))
        clear r2 r8 r7 r12 ra ro r1 f2 r2' r8' r7' HL
        generalize Sort.grow (redrawn wr dq) osq = w4 at *
        obtain ⟨r2, f2, r1, r8, r7, r12, ra, ro⟩ := RD.out w4 t HL4.out
        obtain ⟨n0, _⟩ := cell_of (j := 0) (u := .int .i64 (i : Int)) HL4.out.blk rfl
        obtain ⟨n3, _⟩ := cell_of (j := 3) (u := .bool true) HL4.out.blk rfl
        have HX := hide (FIN.out w3 w4 t true HT3.out HL4.out hend _ rfl rfl)
        have hgw := hide (HTROW.out w4 t HL4.out)
        obtain ⟨s0, s1, s2, s3, u0, u1, u2, u3⟩ := hgw.out
        obtain ⟨v12, vj⟩ := SETS.out w4 (.int .i64 (i : Int)) (.string y) (.int .i64 (t : Int)) (.bool true)
        have v12 := v12.trans r12
        have y0 := (vj 0).trans n0
        have y1 := (vj 1).trans r1
        have y2 := (vj 2).trans r2
        have y3 := (vj 3).trans n3
        have z12 : w4.drew.cell? ⟨sb, 12, none⟩ = some (.slice (some ⟨g, 0, none⟩) tls.length c) := r12
        have zz0 : w4.drew.cell? ⟨nb, 0, none⟩ = some (.int .i64 (i : Int)) := n0
        have zz1 : w4.drew.cell? ⟨nb, 1, none⟩ = some (.string y) := r1
        have zz2 : w4.drew.cell? ⟨nb, 2, none⟩ = some (.int .i64 (t : Int)) := r2
        have zz3 : w4.drew.cell? ⟨nb, 3, none⟩ = some (.bool true) := n3
        clear vj
        have htk := HDONE.out t HL4.out.pi hend
        rw [htk] at *
        clear r8 r7 ra ro FIN RD HDONE HTOLD HL4 SETS HTROW
        go_upto_region 15 with fail
        go_region_held3 (fun w' => w'.cell? ⟨sb, 12, none⟩ = some (.slice (some ⟨g, 0, none⟩) tls.length c) ∧ w'.cell? ⟨nb, 0, none⟩ = some (.int .i64 (i : Int)) ∧ w'.cell? ⟨nb, 1, none⟩ = some (.string y) ∧ w'.cell? ⟨nb, 2, none⟩ = some (.int .i64 (t : Int)) ∧ w'.cell? ⟨nb, 3, none⟩ = some (.bool true)) (first | with_reducible exact ⟨z12, zz0, zz1, zz2, zz3⟩ | with_reducible exact ⟨v12, y0, y1, y2, y3⟩ | fail) (fail)
        go_wp2_with fail
        go_end0
        exact ⟨rfl, HX.out⟩
      · have hI1 : (t : Int) < (all.length : Int) := by omega
        have hI2 : ¬ (tkn (hsW y) all p t : Int) < (L.batch : Int) := by omega
        go_upto_region 6 with fail
        refine wp_region_quiet_below (by kernel_rfl) (by kernel_rfl) ?_
        repeat (go_big_quiet_step (fail))
        refine wpQuiet_nil ?_
        intro _ hw'
        obtain ⟨⟨dq, osq⟩, hw''⟩ := hw'
        subst hw''
        have HL4 := hide (HL.out.below (below_regrown wr dq osq))
        clear r2 r8 r7 r12 ra ro r1 f2 r2' r8' r7' HL
        generalize Sort.grow (redrawn wr dq) osq = w4 at *
        obtain ⟨r2, f2, r1, r8, r7, r12, ra, ro⟩ := RD.out w4 t HL4.out
        obtain ⟨n0, _⟩ := cell_of (j := 0) (u := .int .i64 (i : Int)) HL4.out.blk rfl
        obtain ⟨n3, _⟩ := cell_of (j := 3) (u := .bool true) HL4.out.blk rfl
        have HX := hide (FIN.out w3 w4 t true HT3.out HL4.out hend _ rfl rfl)
        have hgw := hide (HTROW.out w4 t HL4.out)
        obtain ⟨s0, s1, s2, s3, u0, u1, u2, u3⟩ := hgw.out
        obtain ⟨v12, vj⟩ := SETS.out w4 (.int .i64 (i : Int)) (.string y) (.int .i64 (t : Int)) (.bool true)
        have v12 := v12.trans r12
        have y0 := (vj 0).trans n0
        have y1 := (vj 1).trans r1
        have y2 := (vj 2).trans r2
        have y3 := (vj 3).trans n3
        have z12 : w4.drew.cell? ⟨sb, 12, none⟩ = some (.slice (some ⟨g, 0, none⟩) tls.length c) := r12
        have zz0 : w4.drew.cell? ⟨nb, 0, none⟩ = some (.int .i64 (i : Int)) := n0
        have zz1 : w4.drew.cell? ⟨nb, 1, none⟩ = some (.string y) := r1
        have zz2 : w4.drew.cell? ⟨nb, 2, none⟩ = some (.int .i64 (t : Int)) := r2
        have zz3 : w4.drew.cell? ⟨nb, 3, none⟩ = some (.bool true) := n3
        clear vj
        have htk := HDONE.out t HL4.out.pi hend
        rw [htk] at *
        clear r8 r7 ra ro FIN RD HDONE HTOLD HL4 SETS HTROW
        go_upto_region 15 with fail
        go_region_held3 (fun w' => w'.cell? ⟨sb, 12, none⟩ = some (.slice (some ⟨g, 0, none⟩) tls.length c) ∧ w'.cell? ⟨nb, 0, none⟩ = some (.int .i64 (i : Int)) ∧ w'.cell? ⟨nb, 1, none⟩ = some (.string y) ∧ w'.cell? ⟨nb, 2, none⟩ = some (.int .i64 (t : Int)) ∧ w'.cell? ⟨nb, 3, none⟩ = some (.bool true)) (first | with_reducible exact ⟨z12, zz0, zz1, zz2, zz3⟩ | with_reducible exact ⟨v12, y0, y1, y2, y3⟩ | fail) (fail)
        go_wp2_with fail
        go_end0
        exact ⟨rfl, HX.out⟩
end Go.Proofs.YtkncboinfcnklabGreatDoor.Kp

namespace Go.Proofs.YtkncboinfcnklabGreatDoor
open Go.RowKit Go.Deep Go.Shelf Go.Proofs.YtkncboinfcnklabGreatDoor.Mth

/-- Which entries a query tells. -/
def gq (L : Lg) (x : ByteArray) (lo hi : Int) (e : Ent) : Bool := memD x (wd e.text) && (decide (yng L lo ≤ e.time) && decide (e.time ≤ hi))
theorem qFnd_eq (x : ByteArray) (lo hi : Int) : ∀ ps : List (List Ent), qFnd x lo hi ps = ps.flatten.filter (fun e => memD x (wd e.text) && (decide (lo ≤ e.time) && decide (e.time ≤ hi)))
  | [] => rfl
  | es :: ps => by
    have := qFnd_eq x lo hi ps
    unfold qFnd at this ⊢
    rw [List.flatMap_cons, this, List.flatten_cons, List.filter_append]
    rfl
theorem Inv.query {L : Lg} {all : List Ent} (h : Inv L all) (x : ByteArray) (lo hi : Int) : qFnd x (yng L lo) hi (segs L.lev) ++ fnd L.mem x (yng L lo) hi = tld (gq L x lo hi) all 0 (all.length + 1) := by
  rw [qFnd_eq]
  have e1 : (segs L.lev).flatten.filter (fun e => memD x (wd e.text) && (decide (yng L lo ≤ e.time) && decide (e.time ≤ hi))) ++ fnd L.mem x (yng L lo) hi = (sto L).filter (gq L x lo hi) := by
    unfold sto
    rw [List.filter_append]
    rfl
  rw [e1, h.filter (gq L x lo hi) (fun e he hq => ?_)]
  · unfold tld
    rw [List.drop_zero, List.take_of_length_le]
    exact Nat.le_succ_of_le (List.length_filter_le _ _)
  · by_cases hin : e ∈ sto L
    · exact hin
    · have := (h.gone e he hin).1
      unfold gq yng at hq
      simp only [Bool.and_eq_true, decide_eq_true_eq] at hq
      omega
theorem Inv.opn {L : Lg} {all : List Ent} (h : Inv L all) (x : ByteArray) (lo hi : Int) : qOpn x lo hi (segs L.lev) ≤ all.length := by
  have h1 : qOpn x lo hi (segs L.lev) ≤ (segs L.lev).length := List.length_filter_le _ _
  have h2 := flat_ge h.ne
  have h3 := h.stoLen
  omega
theorem wd_self (x : ByteArray) (h : Mth.cut [] (tb x) = [x.data.toList]) : wd x = [x] := by
  refine (wd_of (List.pairwise_singleton _ _) (fun y => ?_)).symm
  rw [h]
  simp only [List.map_cons, List.map_nil, List.mem_singleton, ofL_of]
theorem wds_isWd {x : ByteArray} (h : x ∈ Kp.wds) : isWd x = true := by
  simp only [Kp.wds, List.mem_cons, List.not_mem_nil, or_false] at h
  unfold isWd
  rcases h with rfl | rfl | rfl | rfl | rfl | rfl <;> exact decide_eq_true ⟨by decide, wd_self _ (by decide)⟩
end Go.Proofs.YtkncboinfcnklabGreatDoor

namespace Go.Proofs.YtkncboinfcnklabGreatDoor.Kp
open Go.RowKit Go.Deep Go.Shelf Go.Proofs.YtkncboinfcnklabGreatDoor.Mth

abbrev mvV (k a b : Int) (s : ByteArray) : Value := .agg #[.int .i64 k, .int .i64 a, .int .i64 b, .string s]
abbrev mvO (k a b : Int) (s : ByteArray) : Obj := Obj.cells #[.int .i64 k, .int .i64 a, .int .i64 b, .string s] 42
end Go.Proofs.YtkncboinfcnklabGreatDoor.Kp
