import Derived.Test.YtkncboinfcnklabGreatDoorQ18
import Derived.Test.YtkncboinfcnklabGreatDoorQ10
import Derived.Deep.CutRange
namespace Go.Proofs.YtkncboinfcnklabGreatDoor
open Go.RowKit Go.Deep Go.Shelf Go.Proofs.YtkncboinfcnklabGreatDoor.Mth

/-! ### what a tail is told -/
theorem take_more {α : Type} (A B : List α) (n : Nat) : A.take n ++ B.take (n - (A.take n).length) = (A ++ B).take n := by
  rw [List.take_append, List.length_take]
  congr 1
  by_cases h : n ≤ A.length
  · rw [Nat.min_eq_left h, Nat.sub_self, Nat.sub_eq_zero_of_le h]
  · rw [Nat.min_eq_right (by omega)]
/-- Entries from a place on. -/
theorem AllOk.from {all : List Ent} {c : Nat} (h : AllOk all c) (f : Ent → Bool) (p : Nat) : all.filter (fun e => f e && decide ((p : Int) ≤ e.seq)) = (all.drop p).filter f := by
  have e := List.take_append_drop p all
  have h1 : (all.take p).filter (fun e => f e && decide ((p : Int) ≤ e.seq)) = [] := by
    rw [List.filter_eq_nil_iff]
    intro a ha
    obtain ⟨j, hj, rfl⟩ := List.getElem_of_mem ha
    rw [List.getElem_take]
    have hj' : j < all.length := by simp at hj; omega
    have := h.num j hj'
    rw [← List.getElem_eq_getD (h := hj')] at this
    simp at hj
    simp [this]
    omega
  have h2 : (all.drop p).filter (fun e => f e && decide ((p : Int) ≤ e.seq)) = (all.drop p).filter f := by
    refine List.filter_congr (fun a ha => ?_)
    obtain ⟨j, hj, rfl⟩ := List.getElem_of_mem ha
    rw [List.getElem_drop]
    have hj' : p + j < all.length := by simp at hj; omega
    have := h.num (p + j) hj'
    rw [← List.getElem_eq_getD (h := hj')] at this
    simp [this]
    intro _
    omega
  conv => lhs; rw [← e]
  rw [List.filter_append, h1, h2, List.nil_append]
/-- The place of a tail behind a Poll that told so many. -/
def plc (told : List Ent) (batch count : Nat) : Nat := if told.length = batch then ((told.getD (batch - 1) e0).seq + 1).toNat else count
/-- What a Poll tells. -/
def tld (f : Ent → Bool) (all : List Ent) (p batch : Nat) : List Ent := ((all.drop p).filter f).take batch
theorem tld_mem {f : Ent → Bool} {all : List Ent} {p b : Nat} {e : Ent} (h : e ∈ tld f all p b) : e ∈ all ∧ f e = true := by
  have := List.mem_filter.1 (List.mem_of_mem_take h)
  exact ⟨List.mem_of_mem_drop this.1, this.2⟩
/-- As many as were counted: the next one that is told. -/
def tkn (f : Ent → Bool) (all : List Ent) (p t : Nat) : Nat := (((all.take t).drop p).filter f).length
theorem split_at {all : List Ent} {p t : Nat} (h : p ≤ t) : all.drop p = (all.take t).drop p ++ all.drop t := by
  by_cases ht : t ≤ all.length
  · conv => lhs; rw [← List.take_append_drop t all]
    rw [List.drop_append, List.length_take, Nat.min_eq_left ht, Nat.sub_eq_zero_of_le h, List.drop_zero]
  · rw [List.take_of_length_le (by omega), List.drop_of_length_le (show all.length ≤ t by omega), List.append_nil]
theorem tkn_start (f : Ent → Bool) (all : List Ent) (p : Nat) : tkn f all p p = 0 := by
  unfold tkn
  rw [List.drop_of_length_le (by simp; omega)]
  rfl
theorem tkn_next {f : Ent → Bool} {all : List Ent} {p t : Nat} (h : p ≤ t) (ht : t < all.length) : tkn f all p (t + 1) = tkn f all p t + (if f (all.getD t e0) then 1 else 0) := by
  unfold tkn
  have e : (all.take (t + 1)).drop p = (all.take t).drop p ++ [all.getD t e0] := by
    rw [List.take_add_one, List.getElem?_eq_getElem ht, List.drop_append]
    have : p - (all.take t).length = 0 := by simp; omega
    rw [this, List.drop_zero]
    simp [List.getD, ht]
  rw [e, List.filter_append, List.length_append]
  congr 1
  generalize all.getD t e0 = x
  cases hf : f x <;> simp [hf]
theorem tld_at {f : Ent → Bool} {all : List Ent} {p t b : Nat} (h : p ≤ t) (ht : t < all.length) (hf : f (all.getD t e0) = true) (hk : tkn f all p t < b) : tkn f all p t < (tld f all p b).length ∧ (tld f all p b).getD (tkn f all p t) e0 = all.getD t e0 := by
  have e : (all.drop p).filter f = ((all.take t).drop p).filter f ++ (all.getD t e0 :: (all.drop (t + 1)).filter f) := by
    rw [split_at h, List.filter_append, List.drop_eq_getElem_cons ht, List.filter_cons, List.getElem_eq_getD e0, if_pos hf]
  have hl : (((all.take t).drop p).filter f).length = tkn f all p t := rfl
  unfold tld
  rw [e]
  constructor
  · rw [List.length_take, List.length_append, hl, List.length_cons]
    omega
  · rw [List.getD, List.getElem?_take, if_pos hk, List.getElem?_append_right (by omega), hl, Nat.sub_self]
    rfl
theorem tld_len {f : Ent → Bool} {all : List Ent} {p b : Nat} : (tld f all p b).length = min b (tkn f all p all.length) := by
  unfold tld tkn
  rw [List.length_take, List.take_length]
theorem tkn_mono {f : Ent → Bool} {all : List Ent} {p t : Nat} (h : p ≤ t) : tkn f all p t ≤ tkn f all p all.length := by
  unfold tkn
  rw [List.take_length]
  conv => rhs; rw [split_at h]
  rw [List.filter_append, List.length_append]
  omega
theorem tkn_full {f : Ent → Bool} {all : List Ent} {p t b : Nat} (h : p ≤ t) (hk : tkn f all p t = b) : (tld f all p b).length = b := by
  rw [tld_len]
  have := tkn_mono (f := f) (all := all) h
  omega
end Go.Proofs.YtkncboinfcnklabGreatDoor

namespace Go.Proofs.YtkncboinfcnklabGreatDoor
open Go.RowKit Go.Deep Go.Shelf Go.Proofs.YtkncboinfcnklabGreatDoor.Mth

/-- Of what a tail has need. -/
def fq (x : ByteArray) (p : Nat) (e : Ent) : Bool := memD x (wd e.text) && decide ((p : Int) ≤ e.seq)
/-- What a tail reads of some segments. -/
def rdT (x : ByteArray) (p most : Nat) (es : List (List Ent)) : List Ent := (es.flatten.filter (fq x p)).take most
theorem rdT_snoc (x : ByteArray) (p most : Nat) {es : List (List Ent)} {k : Nat} (h : k < es.length) : rdT x p most (es.take (k + 1)) = rdT x p most (es.take k) ++ flw (es.getD k []) x (p : Int) (most - (rdT x p most (es.take k)).length) := by
  have := flat_snoc (es := es) (k := k) h (fq x p)
  unfold rdT
  rw [this, ← take_more]
  rfl
theorem rdT_len (x : ByteArray) (p most : Nat) (es : List (List Ent)) : (rdT x p most es).length ≤ most := by
  unfold rdT
  rw [List.length_take]
  omega

set_option maxRecDepth 100000 in
set_option maxHeartbeats 4000000 in
theorem readT_any {w : World} {B : Nat} (x : ByteArray) (hx : x.size ≤ maxLen) (p most : Nat) (hmost : most ≤ 100) {sv : Value} {bs : List Nat} {es : List (List Ent)} (hR : RdP w sv bs) (hlen : bs.length = es.length)
    (hseg : ∀ j, j < es.length → (∃ ev mb, SegAt w B (bs.getD j 0) (es.getD j []) ev mb) ∧ (es.getD j []).length ≤ 1048576 ∧ Sqs (es.getD j [])) :
    Calls Tryz.prog 69 #[tlV (x, p), sv, .int .i64 (most : Int)] w fun e w' => ∃ v, e = .returned v ∧ CurE w w' v (rdT x p most es) := by
  obtain ⟨i0, hi0, hz0, hz1, hz2⟩ := info_parts Tryz.info49
  have hb0 := below_allocG w (Obj.cells #[.string x, .int .i64 (p : Int)] 112)
  have hk0 := new_blk w #[.string x, .int .i64 (p : Int)] 112
  have hR1 : RdP (w.alloc (Obj.cells #[.string x, .int .i64 (p : Int)] 112)) sv bs := hR.below hb0
  have hseg1 : ∀ j, j < es.length → (∃ ev mb, SegAt (w.alloc (Obj.cells #[.string x, .int .i64 (p : Int)] 112)) B (bs.getD j 0) (es.getD j []) ev mb) ∧ (es.getD j []).length ≤ 1048576 ∧ Sqs (es.getD j []) := fun j hj => by
    obtain ⟨⟨ev, mb, q⟩, q2⟩ := hseg j hj
    exact ⟨⟨ev, mb, q.below hb0⟩, q2⟩
  have HB0 := hide hb0
  clear hR hseg hb0
  obtain ⟨a, c, rfl, hcc, hm, hp⟩ := hR1
  have HP := hide hp
  have HS := hide hseg1
  unfold maxLen at hm
  clear hp hseg1
  rw [hlen] at hcc HP ⊢
  have HLEN := hide hlen
  clear hlen
  generalize hn : es.length = n at *
  have HN := hide hn
  clear hn
  unfold tlV
  go_enter Tryz.func69, Tryz.ntmps69
  go_wp2_with fail
  generalize hnb : w.heap.size = nb at *
  generalize w.alloc (Obj.cells #[.string x, .int .i64 (p : Int)] 112) = w1 at *
  obtain ⟨b0, _⟩ := cell_of (j := 0) (u := .string x) hk0 rfl
  obtain ⟨b1, _⟩ := cell_of (j := 1) (u := .int .i64 (p : Int)) hk0 rfl
  have hnlt : nb < w1.heap.size := (Array.getElem?_eq_some_iff.1 hk0).1
  have HNB := hide hnb
  clear hk0 hnb
  go_loopw [7, 12] (fun v i wr => ∃ k : Nat, k ≤ n ∧ i = .int .i64 k ∧ CurE w1 wr v (rdT x p most (es.take k))) (fun _ i _ => n - (intOf i).toNat)
  case atStart => exact ⟨0, Nat.zero_le _, rfl, Below.refl _ _, by rw [show rdT x p most (es.take 0) = [] from by simp [rdT]]; exact World.ownsRow_nil _ _ _ _⟩
  case round =>
    obtain ⟨k, hk', rfl, hcur⟩ := hrel
    have HC := hide hcur
    clear hcur
    by_cases hlt : k < n
    · obtain ⟨⟨ev, mb, hsg⟩, hsl, hsq⟩ := HS.out k hlt
      have hcell : ∃ b o, a = some ⟨b, o, none⟩ ∧ wr.cell? ⟨b, o + k, none⟩ = some (ptrV (bs.getD k 0)) := by
        rcases HP.out with e | ⟨b, o, e, hq⟩
        · have := HLEN.out; rw [e] at this; simp at this; omega
        · have := hq k hlt
          exact ⟨b, o, e, (HC.out.1.cell (p := ⟨b, o + k, none⟩) (World.block_lt_of_cell? _ _ this)).trans this⟩
      obtain ⟨b, o, rfl, hcell⟩ := hcell
      have hsr := hsg.below HC.out.1
      have hsn := rdT_snoc x p most (es := es) (k := k) (by rw [HN.out]; exact hlt)
      have hl0 := rdT_len x p most (es.take k)
      have hl1 := rdT_len x p most (es.take (k + 1))
      have CF := hide (follow_any hsr x hx (p : Int) (most - (rdT x p most (es.take k)).length) (by omega) hsl hsq)
      rw [hsn, List.length_append] at hl1
      have HSN := hide hsn
      have b0' := (HC.out.1.cell (p := ⟨nb, 0, none⟩) hnlt).trans b0
      have b1' := (HC.out.1.cell (p := ⟨nb, 1, none⟩) hnlt).trans b1
      obtain ⟨va, vc, rfl, _, _⟩ := own_slice HC.out.2
      clear hsn hsr hsg hsq
      generalize bs.getD k 0 = pb at *
      generalize es.getD k [] = ek at *
      generalize hL0 : rdT x p most (es.take k) = L0 at *
      have HL0 := hide hL0
      clear hL0
      have hcast : ((most - L0.length : Nat) : Int) = (most : Int) - (L0.length : Int) := by omega
      rw [hcast] at CF
      generalize hF0 : flw ek x (p : Int) (most - L0.length) = F0 at *
      have HF0 := hide hF0
      clear hF0 hcast
      go_wp2_with (first
        | (go_at_call 93; refine CF.out.mono ?_; rintro e w5 ⟨v5, rfl, hc5⟩; obtain ⟨a5, k5, rfl, _, _⟩ := own_slice hc5.2; have HC5 := hide hc5; have HB5 := hide (HC.out.1.trans (hc5.1.mono HC.out.1.size)); have HCW5 := hide (own_same HC.out.2 (fun g hg => hc5.1.block g (own_block HC.out.2 hg).2.1)); clear hc5)
        | (at_builtin; refine wpList_append_any _ rfl _ _ 33 rfl w1.heap.size wr.heap.size 49 i0 (.agg #[.int .i64 0, .int .i64 0, .string ByteArray.empty]) 3 32 Tryz.underlying33 hi0 hz0 hz1 hz2 rfl (by decide) _ _ _ rfl HCW5.out _ _ _ rfl HC5.out.2 (eC_one _) (by unfold maxLen; omega) (by omega) (by have := HB5.out.size; omega) ?_; intro v6 w6 ho6 hg6; have HB6 := hide (below_grown HB5.out HCW5.out (Nat.le_refl _) hg6); rw [← List.flatMap_append] at ho6; rw [← List.length_append] at ho6; rw [← HSN.out] at ho6; have HO6 := hide ho6; clear ho6 hg6))
      go_roundw
      case rel => exact ⟨k + 1, by omega, by go_num, HB6.out, HO6.out⟩
      case measure => simp [intOf]; omega
    · obtain rfl : k = n := by omega
      have htk : es.take k = es := List.take_of_length_le (Nat.le_of_eq HN.out)
      rw [htk] at HC
      obtain ⟨va, vc, rfl, _, _⟩ := own_slice HC.out.2
      go_wp2
      go_ret
      exact ⟨_, rfl, CurE.pre (by rw [HNB.out]; exact HB0.out) HC.out⟩
end Go.Proofs.YtkncboinfcnklabGreatDoor

namespace Go.Proofs.YtkncboinfcnklabGreatDoor
open Go.RowKit Go.Deep Go.Shelf Go.Proofs.YtkncboinfcnklabGreatDoor.Mth

theorem Tryz.sizeTl : (Tryz.prog.info? 112).map (·.size) = some 2 := by kernel_rfl

set_option maxHeartbeats 1000000 in
theorem newTail_any (x : ByteArray) (p : Int) (w : World) (hs : x.size ≤ 1048576) :
    Calls Tryz.prog 45 #[.string x, .int .i64 p] w fun e w' => e = .returned (.agg #[.string x, .int .i64 p]) ∧ Below w.heap.size w w' := by
  have HB1 := hide (below_allocG w (Obj.cells #[.string ⟨#[]⟩, .int .i64 0] 112))
  have HBK := hide (new_blk w #[.string ⟨#[]⟩, .int .i64 0] 112)
  have CC := hide (clone_any x (w.alloc (Obj.cells #[.string ⟨#[]⟩, .int .i64 0] 112)) hs)
  obtain ⟨nb, hnb⟩ : ∃ nb, nb = w.heap.size := ⟨_, rfl⟩
  have hnlt : nb < (w.alloc (Obj.cells #[.string ⟨#[]⟩, .int .i64 0] 112)).heap.size := by rw [hnb]; simp
  have FIN : Hid (∀ (W : World) (p q : Value), Below (w.alloc (Obj.cells #[.string ⟨#[]⟩, .int .i64 0] 112)).heap.size (w.alloc (Obj.cells #[.string ⟨#[]⟩, .int .i64 0] 112)) W → W.heap[nb]? = some (Obj.cells #[.string ⟨#[]⟩, .int .i64 0] 112 (0, 0)) ∧ Below w.heap.size w ((W.setCell ⟨nb, 0, none⟩ p).setCell ⟨nb, 1, none⟩ q) ∧ ((W.setCell ⟨nb, 0, none⟩ p).setCell ⟨nb, 1, none⟩ q).heap[nb]? = some (Obj.cells #[p, q] 112 (0, 0))) := by
    intro W p q hW
    have hBW := HB1.out.trans (hW.mono HB1.out.size)
    have hbk : W.heap[nb]? = some (Obj.cells #[.string ⟨#[]⟩, .int .i64 0] 112 (0, 0)) := by
      rw [hW.block nb hnlt, hnb]
      exact HBK.out
    exact ⟨hbk, below_set (below_set hBW (by omega)) (by omega), setCell_blk (setCell_blk hbk)⟩
  go_enter Tryz.func45, Tryz.ntmps45
  go_wp2_with fail
  rw [← hnb]
  generalize w.alloc (Obj.cells #[.string ⟨#[]⟩, .int .i64 0] 112) = w1 at *
  refine CC.out.mono ?_
  rintro e w2 ⟨rfl, hb2⟩
  obtain ⟨k0, hB2, hbk2⟩ := FIN.out w2 (.string x) (.int .i64 p) hb2
  obtain ⟨b0, g0⟩ := cell_of (j := 0) (u := .string ⟨#[]⟩) k0 rfl
  obtain ⟨b1, g1⟩ := cell_of (j := 1) (u := .int .i64 0) k0 rfl
  have HBB := hide hB2
  have hld := run_loadVar_row (P := Tryz.prog) _ nb 112 112 _ _ _ hbk2 Tryz.underlying112 rfl Tryz.sizeTl
  have HLD := hide hld
  clear hld hB2 hbk2 hb2 CC FIN HBK hnb k0
  go_wp2
  (try simp only [Exit.inBlock, Exit.then])
  refine bodyPost_ret (v := .agg #[.string x, .int .i64 p]) ?_ rfl ⟨rfl, HBB.out⟩
  have hld := HLD.out
  rw [results_cellG rfl]
  simp [asAddr, Result.andThen, hld]

set_option maxHeartbeats 1000000 in
theorem unsub_no {w : World} {ρ : Nat → Nat} {B N lb : Nat} {G : Gh} {L : Lg} (h : LogX w ρ B N lb G L) {x : Int} (hw : wf64 x) (hn : L.tls x = none) :
    Calls Tryz.prog 26 #[ptrV lb, .int .i64 x] w fun e w' => e = .returned (.int .i64 8) ∧ Below w.heap.size w w' := by
  have hlk := h.t.map.look hw
  rw [hn] at hlk
  simp only [tlOr, Option.isSome_none] at hlk
  obtain ⟨c15, _⟩ := cell_of (j := 15) (u := .map (some G.tm)) h.b.blk rfl
  clear h hn
  go_enter Tryz.func26, Tryz.ntmps26
  go_wp2_with fail
  go_ret
  exact ⟨rfl, below_allocG _ _⟩
/-- What a call on the tails leaves. -/
structure TStp (w w' : World) (ρ : Nat → Nat) (B N lb : Nat) (G : Gh) (L' : Lg) : Prop where
  log : LogAt w' ρ B N lb G L'
  stp : LStp w w' ρ ρ
theorem LogAt.tStep {w w' : World} {ρ : Nat → Nat} {B N N' lb : Nat} {G : Gh} {L : Lg} (h : LogAt w ρ B N lb G L) (hg : w.grownBy w' (some G.tm)) {tls' : Int → Option (ByteArray × Nat)} {tn' : Nat} (ht : TlsAt w' G.tm N' tls' tn') :
    TStp w w' ρ B N' lb G { L with tls := tls', tn := tn' } := by
  obtain ⟨r1, r2, r3⟩ := h.x.tStep hg ht
  have hm := h.m.same r3
  exact ⟨⟨r1, ⟨hm.seg, hm.rl⟩⟩, r2⟩
theorem TStp.pre {w w1 w2 : World} {ρ : Nat → Nat} {B N lb : Nat} {G : Gh} {L : Lg} (hb : Below w.heap.size w w1) (h : TStp w1 w2 ρ B N lb G L) : TStp w w2 ρ B N lb G L := ⟨h.log, LStp.pre hb h.stp⟩

set_option maxRecDepth 100000 in
set_option maxHeartbeats 1000000 in
theorem unsub_yes {w : World} {ρ : Nat → Nat} {B N lb : Nat} {G : Gh} {L : Lg} (h : LogAt w ρ B N lb G L) {x : Int} (hw : wf64 x) {p : ByteArray × Nat} (hn : L.tls x = some p) :
    Calls Tryz.prog 26 #[ptrV lb, .int .i64 x] w fun e w' => e = .returned (.int .i64 0) ∧ TStp w w' ρ B N lb G { L with tls := fun y => if y = x then none else L.tls y, tn := L.tn - 1 } := by
  obtain ⟨x0, p0⟩ := p
  have hlk := h.x.t.map.look hw
  rw [hn] at hlk
  simp only [tlOr, tlV, Option.isSome_some] at hlk
  obtain ⟨c15, _⟩ := cell_of (j := 15) (u := .map (some G.tm)) h.x.b.blk rfl
  have hb := below_allocG w (Obj.cells #[.string x0, .int .i64 (p0 : Int)] 112)
  have h1 := h.below hb
  have hdl := fun ty => h1.x.t.map.del hw ty
  simp only [hn, Option.isSome_some, if_true] at hdl
  obtain ⟨d15, _⟩ := cell_of (j := 15) (u := .map (some G.tm)) h1.x.b.blk rfl
  obtain ⟨w2, hr2, ht2, hg2⟩ := hdl 0
  have HF := hide (TStp.pre hb (h1.tStep hg2 ht2))
  clear h hn h1 hdl hb ht2 hg2
  generalize L.tn - 1 = tn1 at *
  go_enter Tryz.func26, Tryz.ntmps26
  go_wp2_with fail
  go_ret
  exact ⟨rfl, HF.out⟩

/-- One tail more was made. -/
theorem LogAt.setSubs {w : World} {ρ : Nat → Nat} {B N lb : Nat} {G : Gh} {L : Lg} (h : LogAt w ρ B N lb G L) (n : Nat) : TStp w (w.setCell ⟨lb, 16, none⟩ (.int .i64 (n : Int))) ρ B N lb G { L with subs := n } := by
  obtain ⟨xb, xj, xv, xk, xt, hlt⟩ := h.x
  obtain ⟨r1, r2⟩ := head_set (N := N) (G' := G) (L' := { L with subs := n }) xb hlt 16 (.int .i64 (n : Int)) rfl ⟨xj.j, xj.rl⟩ ⟨xv.row, xv.len, xv.seg, xv.rr, xv.rs⟩ ⟨xk.row, xk.len, xk.one, xk.lst, xk.ok, xk.few, xk.ge, xk.rw, xk.rb, xk.rl⟩ ⟨xt.map, xt.rl, xt.ge⟩
  have hm := h.m
  refine ⟨⟨r1, ⟨hm.seg.same (fun g q => set_other (fun e => ?_)), hm.rl⟩⟩, r2⟩
  subst e
  rcases q with q | q
  · have h1 := hm.rl g q
    have h2 := xb.rl
    omega
  · exact notN xb.blk (by decide) q
theorem TStp.trans {w w1 w2 : World} {ρ : Nat → Nat} {B N N' lb : Nat} {G : Gh} {L L' : Lg} (h1 : TStp w w1 ρ B N lb G L) (h2 : TStp w1 w2 ρ B N' lb G L') : TStp w w2 ρ B N' lb G L' := ⟨h2.log, h1.stp.trans h2.stp⟩

set_option maxRecDepth 100000 in
set_option maxHeartbeats 1000000 in
theorem sub_many {w : World} {ρ : Nat → Nat} {B N lb : Nat} {G : Gh} {L : Lg} (h : LogX w ρ B N lb G L) (ht : Tab w) (x : ByteArray) (hx : x.size ≤ maxLen) (hw : isWd x = true) (hn : 4 ≤ L.tn) (hn2 : L.tn ≤ 1000000) :
    Calls Tryz.prog 25 #[ptrV lb, .string x] w fun e w' => e = .returned (.tuple #[.int .i64 0, .int .i64 7]) ∧ Below w.heap.size w w' := by
  have CW := hide (isWord_any x w ht hx)
  rw [hw] at CW
  have CK : Hid (∀ w1, Below w.heap.size w w1 → w1.cell? ⟨lb, 15, none⟩ = some (.map (some G.tm)) ∧ ∀ ty, (Builtin.len_ #[76] ty #[.map (some G.tm)]).run Tryz.prog w1 = .ok (.int .i64 (L.tn : Int)) w1) := fun w1 hb => ⟨(cell_of (j := 15) (h.below hb).b.blk rfl).1, fun ty => (h.below hb).t.map.len ty⟩
  clear h
  go_enter Tryz.func25, Tryz.ntmps25
  go_wp2_with (first
    | (go_at_call 27; refine CW.out.mono ?_; rintro e w1 ⟨rfl, hb1⟩; have HB1 := hide hb1; obtain ⟨k15, klen⟩ := CK.out w1 hb1; clear hb1))
  go_ret2
  exact ⟨rfl, HB1.out⟩

set_option maxRecDepth 100000 in
set_option maxHeartbeats 2000000 in
theorem sub_yes {w : World} {ρ : Nat → Nat} {B N lb : Nat} {G : Gh} {L : Lg} (h : LogAt w ρ B N lb G L) (ht : Tab w) (x : ByteArray) (hx : x.size ≤ 1048576) (hw : isWd x = true) (hn : L.tn < 4) (hN : N < maxLen) (hs : L.subs ≤ 1000000000000) (hfree : L.tls (L.subs : Int) = none) :
    Calls Tryz.prog 25 #[ptrV lb, .string x] w fun e w' => e = .returned (.tuple #[.int .i64 (L.subs : Int), .int .i64 0]) ∧ TStp w w' ρ B (N + 1) lb G { L with tls := fun y => if y = (L.subs : Int) then some (x, L.count) else L.tls y, tn := L.tn + 1, subs := L.subs + 1 } := by
  have hwf : wf64 (L.subs : Int) := by unfold wf64; simp [Lit.wf, IntKind.min, IntKind.max, IntKind.signed, IntKind.bits]; omega
  have CW := hide (isWord_any x w ht (by unfold maxLen; omega))
  rw [hw] at CW
  have CK : Hid (∀ w1, Below w.heap.size w w1 → w1.cell? ⟨lb, 15, none⟩ = some (.map (some G.tm)) ∧ w1.cell? ⟨lb, 6, none⟩ = some (ptrV G.jb) ∧ w1.cell? ⟨lb, 16, none⟩ = some (.int .i64 (L.subs : Int)) ∧ ∀ ty, (Builtin.len_ #[76] ty #[.map (some G.tm)]).run Tryz.prog w1 = .ok (.int .i64 (L.tn : Int)) w1) := fun w1 hb => ⟨(cell_of (j := 15) (h.x.below hb).b.blk rfl).1, (cell_of (j := 6) (h.x.below hb).b.blk rfl).1, (cell_of (j := 16) (h.x.below hb).b.blk rfl).1, fun ty => (h.x.below hb).t.map.len ty⟩
  have CN : Hid (∀ w1, Below w.heap.size w w1 → Calls Tryz.prog 46 #[ptrV G.jb] w1 fun e w' => e = .returned (.int .i64 (L.count : Int)) ∧ w' = w1) := fun w1 hb => jNext_any (h.x.below hb).j.j
  have CP : Hid (∀ w1, Below w.heap.size w w1 → ∃ w2, (Instr.mapUpdate 76 (.map (some G.tm)) (.int .i64 (L.subs : Int)) (.agg #[.string x, .int .i64 (L.count : Int)])).run Tryz.prog w1 = .ok () w2 ∧ TStp w w2 ρ B (N + 1) lb G { L with tls := fun y => if y = (L.subs : Int) then some (x, L.count) else L.tls y, tn := L.tn + 1 } ∧ w2.cell? ⟨lb, 15, none⟩ = some (.map (some G.tm)) ∧ w2.cell? ⟨lb, 6, none⟩ = some (ptrV G.jb) ∧ w2.cell? ⟨lb, 16, none⟩ = some (.int .i64 (L.subs : Int)) ∧ w2.frozen? ⟨lb, 16, none⟩ = false) := by
    intro w1 hb
    have h1 := h.below hb
    obtain ⟨w2, hr, ht2, hg⟩ := h1.x.t.map.put hwf hN (x, L.count)
    rw [hfree, if_neg (by simp)] at ht2
    have h2 := h1.tStep hg ht2
    exact ⟨w2, hr, h2.pre hb, (cell_of (j := 15) h2.log.x.b.blk rfl).1, (cell_of (j := 6) h2.log.x.b.blk rfl).1, (cell_of (j := 16) h2.log.x.b.blk rfl).1, (cell_of (j := 16) (u := .int .i64 (L.subs : Int)) h2.log.x.b.blk rfl).2⟩
  have FIN : Hid (∀ w2, TStp w w2 ρ B (N + 1) lb G { L with tls := fun y => if y = (L.subs : Int) then some (x, L.count) else L.tls y, tn := L.tn + 1 } → TStp w (w2.setCell ⟨lb, 16, none⟩ (.int .i64 ((L.subs : Int) + 1))) ρ B (N + 1) lb G { L with tls := fun y => if y = (L.subs : Int) then some (x, L.count) else L.tls y, tn := L.tn + 1, subs := L.subs + 1 }) := by
    intro w2 h2
    have := h2.trans (h2.log.setSubs (L.subs + 1))
    rwa [Int.natCast_add] at this
  generalize hLL : ({ L with tls := fun y => if y = (L.subs : Int) then some (x, L.count) else L.tls y, tn := L.tn + 1 } : Lg) = L1 at *
  generalize hL2 : ({ L with tls := fun y => if y = (L.subs : Int) then some (x, L.count) else L.tls y, tn := L.tn + 1, subs := L.subs + 1 } : Lg) = L2 at *
  clear h ht hfree hwf hw hLL hL2
  generalize L.subs = sn at *
  generalize L.count = cn at *
  generalize L.tn = tn at *
  go_enter Tryz.func25, Tryz.ntmps25
  go_wp2_with (first
    | (go_at_call 27; refine CW.out.mono ?_; rintro e w1 ⟨rfl, hb1⟩; have HB1 := hide hb1; obtain ⟨k15, k6, k16, klen⟩ := CK.out w1 hb1; clear hb1))
  go_region_held3 (fun w' => w'.cell? ⟨lb, 15, none⟩ = some (.map (some G.tm)) ∧ w'.cell? ⟨lb, 6, none⟩ = some (ptrV G.jb)) (first | exact ⟨k15, k6⟩ | exact ⟨n15, n6⟩ | exact ⟨m15, m6⟩ | go_keep)
    (first
      | (go_at_call 46; refine (CN.out _ (HB1.out.trans ((below_drewN w1 1).mono HB1.out.size))).mono ?_; rintro e w' ⟨rfl, rfl⟩)
      | (go_at_call 45; refine (newTail_any x (cn : Int) _ hx).mono ?_; rintro e w2 ⟨rfl, hb2⟩; have hB2 := HB1.out.trans ((below_drew hb2).mono HB1.out.size); obtain ⟨m15, m6, _, _⟩ := CK.out w2 hB2; obtain ⟨w3, hrun, hT3, n15, n6, n16, nf⟩ := CP.out w2 hB2; have HT3 := hide hT3; clear hT3 hb2 hB2))
  go_wp2_with fail
  go_ret2
  exact ⟨rfl, FIN.out _ HT3.out⟩
end Go.Proofs.YtkncboinfcnklabGreatDoor

namespace Go.Proofs.YtkncboinfcnklabGreatDoor
open Go.RowKit Go.Deep Go.Proofs.YtkncboinfcnklabGreatDoor.Mth

theorem curF_append0 {e : TypeId} {w0 w w2 : World} {v v2 : Value} {l : List Fl} {f : Fl} (h : CurF e w0 w v l) (h2 : w2.ownsRow w0.heap.size e 3 v2 (l.length + 1) (l.flatMap fC ++ fC f)) (hg : w.grownBy w2 v.ownBlock) : CurF e w0 w2 v2 (l ++ [f]) := by
  refine ⟨?_, by simpa [List.flatMap_append] using h2⟩
  refine h.1.grown hg h.1.size ?_
  intro k hk
  exact (h.2.lt k hk).1

theorem cellA {w : World} {a : Addr} {v : Value} {o : Obj} (h : w.cell? a = some v) : (w.alloc o).cell? a = some v := ((below_alloc w o).cell (p := a) (World.block_lt_of_cell? _ _ h)).trans h

theorem add_lt (w : World) (o : Obj) (j : Nat) : ((⟨w.heap.size, 0, none⟩ : Addr).add j).block < (w.drew.alloc o).heap.size := by
  rw [show (⟨w.heap.size, 0, none⟩ : Addr).add j = ⟨w.heap.size, j, none⟩ from by unfold Addr.add; split <;> simp_all]
  simp

theorem kept_nb {w3 w4 : World} {B b nb : Nat} {fs fs' : List Fl} {l1 : Int} {fv v4 : Value} {C : Array Value} (hc : CurF 87 w3.drew w4 v4 fs') (hlt : nb < w3.heap.size) (hk : w3.heap[nb]? = some (Obj.cells C 87 (0, 0))) (hs : St 82 87 w3 B b fs l1 fv) : (w4.setCell ⟨b, 0, none⟩ v4).heap[nb]? = some (Obj.cells C 87 (0, 0)) := by
  have hne : nb ≠ b := by
    intro q
    subst q
    have := hs.blk
    rw [hk] at this
    injection this with this
    injection this with _ this _
    exact absurd this (by decide)
  rw [set_other hne, (hc.pre (drewB w3)).1.block nb hlt]
  exact hk
theorem kept_d {w3 w4 : World} {B b d : Nat} {fs fs' : List Fl} {l1 : Int} {fv v4 : Value} (hc : CurF 87 w3.drew w4 v4 fs') (hp : Ptr 104 w3 d b) (hs : St 82 87 w3 B b fs l1 fv) : Ptr 104 (w4.setCell ⟨b, 0, none⟩ v4) d b := by
  have hne : d ≠ b := by
    intro q
    subst q
    have := hs.blk
    rw [hp] at this
    injection this with this
    injection this with _ this _
    exact absurd this (by decide)
  show _ = _
  rw [set_other hne]
  exact hp.below (hc.pre (drewB w3)).1

set_option maxRecDepth 100000 in
set_option maxHeartbeats 8000000 in
theorem apiRename_yes {w : World} {B b d : Nat} {fs : List Fl} {left : Int} {fv : Value} (h : St 82 87 w B b fs left fv) (hp : Ptr 104 w d b) (hB : B ≤ w.heap.size) (h1 : -1 ≤ left) (h2 : left < 9223372036854775808) (q : left ≠ 0) (hl : fs.length ≤ 4194304) (x y : ByteArray) (i : Nat) (hr : At fs x (i : Int)) (hi : i < fs.length) (hxy : x ≠ y) :
    Calls Tryz.prog 86 #[.pointer (some ⟨d, 0, none⟩), .string x, .string y] w fun e w' => e = .returned (.bool true) ∧ ∃ fv', Stp 82 87 B b w w' fv (wo y (wo x fs) ++ [⟨y, (fs.getD i fl0).data, (fs.getD i fl0).safe⟩]) (decL left) fv' := by
  obtain ⟨i0, hi0, hz0, hz1, hz2⟩ := info_parts Tryz.info87
  have CS := hide (apiStep_any h h1 h2)
  rw [decide_eq_true q] at CS
  obtain ⟨p0, _⟩ := cell_of (j := 0) (u := .pointer (some ⟨b, 0, none⟩)) hp rfl
  have HR := hide hr
  have HP := hide hp
  have HS := hide h
  have hxyb := eqS_false (fun q => hxy q.symm : y ≠ x)
  have hxyc := eqS_false hxy
  generalize decL left = l1 at *
  clear h h1 h2 q hr hp
  go_enter Tryz.func86, Tryz.ntmps86
  go_wp2_with fail
  refine CS.out.mono ?_
  rintro e w1 ⟨rfl, hs⟩
  have HT := hide hs
  have HP1 := hide (HP.out.keep HS.out hs.tch (by decide) (by decide))
  have CF := hide (find_any hs.st x)
  obtain ⟨p1, _⟩ := cell_of (j := 0) (u := .pointer (some ⟨b, 0, none⟩)) HP1.out rfl
  clear hs CS p0 HP HS
  go_wp2_with fail
  refine CF.out.mono ?_
  rintro e w2 ⟨r', rfl, hr, rfl⟩
  have hrr := at_one HR.out hr
  subst hrr
  clear CF hr HR
  obtain ⟨a, c, rfl, hc, hm⟩ := own_slice HT.out.st.own
  unfold maxLen at hm
  obtain ⟨c0, f0⟩ := cell_of (j := 0) (u := .slice a fs.length c) HT.out.st.blk rfl
  have hown := HT.out.st.own
  obtain ⟨g, rfl⟩ := own_some hown (by omega)
  obtain ⟨e2, e3, e4⟩ := own_fl (k := i) hown rfl hi
  generalize (fs.getD i fl0).name = nm at *
  generalize hdt : (fs.getD i fl0).data = dt at *
  generalize hsf : (fs.getD i fl0).safe = sf at *
  have HDT := hide hdt
  have HSF := hide hsf
  clear hdt hsf
  have HBK := hide (new_blk w2 #[.string y, .string dt, .int .i64 (sf : Int)] 87)
  have HB3 := hide (below_alloc w2 (Obj.cells #[.string y, .string dt, .int .i64 (sf : Int)] 87))
  have hlt3 : w2.heap.size < (w2.alloc (Obj.cells #[.string y, .string dt, .int .i64 (sf : Int)] 87)).heap.size := by simp
  have hsz2 := HT.out.tch.size
  clear hown
  go_wp2_with fail
  have HT3 := hide (HT.out.below HB3.out)
  have HP3 := hide (HP1.out.below HB3.out)
  have hnb : w.heap.size ≤ w2.heap.size := hsz2
  generalize w2.alloc (Obj.cells #[.string y, .string dt, .int .i64 (sf : Int)] 87) = w3 at *
  generalize w2.heap.size = nb at *
  have CW := hide (apiWithout_any (HT3.out.st.below (drewB w3)) x hl)
  obtain ⟨p3, _⟩ := cell_of (j := 0) (u := .pointer (some ⟨b, 0, none⟩)) HP3.out rfl
  clear p1 c0 f0 e2 e3 e4 HT HP1 HB3
  obtain ⟨FV, hFV⟩ : ∃ FV, FV = (Value.slice (some ⟨g, 0, none⟩) fs.length c) := ⟨_, rfl⟩
  rw [← hFV] at HT3
  have HFV := hide hFV
  clear hFV
  go_cut [] from 40 (fun wx => ∃ v2, Stp 82 87 B b w wx FV (wo x fs) l1 v2 ∧ Ptr 104 wx d b ∧ wx.heap[nb]? = some (Obj.cells #[.string y, .string dt, .int .i64 (sf : Int)] 87 (0, 0)))
  case first =>
    go_region_with (go_at_call 104; refine CW.out.mono ?_; rintro e w4 ⟨v4, rfl, hc4⟩; obtain ⟨a4, c4, rfl, _, _⟩ := own_slice hc4.2; obtain ⟨ht4, kb, kf, kd⟩ := freshed HT3.out HP3.out hB hc4; have HT4 := hide ht4; have HK4 : Hid ((w4.setCell ⟨b, 0, none⟩ (.slice a4 (wo x fs).length c4)).heap[nb]? = some (Obj.cells #[.string y, .string dt, .int .i64 (sf : Int)] 87 (0, 0))) := kept_nb hc4 hlt3 HBK.out HT3.out.st; have HP4 : Hid (Ptr 104 (w4.setCell ⟨b, 0, none⟩ (.slice a4 (wo x fs).length c4)) d b) := kept_d hc4 HP3.out HT3.out.st; clear ht4 hc4)
    all_goals (go_wp2_with fail; go_meet; exact ⟨_, HT4.out, HP4.out, HK4.out⟩)
  case rest =>
    obtain ⟨v2, hs2, hp2, hk2⟩ := hcut
    have HT5 := hide hs2
    have HP5 := hide hp2
    have HK5 := hide hk2
    have hsz5 := hs2.tch.size
    have CW2 := hide (fun W (hW : Below wc.heap.size wc W) => apiWithout_any (hs2.st.below hW) y (Nat.le_trans (wo_len _ _) hl))
    obtain ⟨p5, _⟩ := cell_of (j := 0) (u := .pointer (some ⟨b, 0, none⟩)) hp2 rfl
    obtain ⟨m0, _⟩ := cell_of (j := 0) (u := .string y) hk2 rfl
    obtain ⟨m1, _⟩ := cell_of (j := 1) (u := .string dt) hk2 rfl
    obtain ⟨m2, _⟩ := cell_of (j := 2) (u := .int .i64 (sf : Int)) hk2 rfl
    have HNE : Hid (nb ≠ b) := by
      intro q
      subst q
      have := HT5.out.st.blk
      rw [HK5.out] at this
      injection this with this
      injection this with _ this _
      exact absurd this (by decide)
    have HDE : Hid (d ≠ b) := by
      intro q
      subst q
      have := HT5.out.st.blk
      rw [HP5.out] at this
      injection this with this
      injection this with _ this _
      exact absurd this (by decide)
    have hml : (wo y (wo x fs)).length ≤ 4194304 := Nat.le_trans (wo_len _ _) (Nat.le_trans (wo_len _ _) hl)
    clear hs2 hp2 hk2 CW HT3 HP3 HBK p3 hlt3
    generalize hml2 : wo y (wo x fs) = L at *
    have HL := hide hml2
    clear hml2
    go_wp2_with fail
    go_region_held3 (fun w' => w'.cell? ⟨d, 0, none⟩ = some (.pointer (some ⟨b, 0, none⟩)) ∧ w'.cell? ⟨nb, 0, none⟩ = some (.string y) ∧ w'.cell? ⟨nb, 1, none⟩ = some (.string dt) ∧ w'.cell? ⟨nb, 2, none⟩ = some (.int .i64 (sf : Int))) (first | exact ⟨p5, m0, m1, m2⟩ | exact ⟨cellA p5, cellA m0, cellA m1, cellA m2⟩ | exact ⟨n0, n1, n2, n3⟩ | exact ⟨cellA n0, cellA n1, cellA n2, cellA n3⟩ | exact ⟨o0, o1, o2, o3⟩ | exact ⟨r0, r1, r2, r3⟩)
      (first
        | (go_at_call 104; refine (CW2.out _ (drewB wc)).mono ?_; rintro e w6 ⟨v6, rfl, hc6⟩; have hc7 := hc6.pre (drewB wc); have HC7 := hide hc7; obtain ⟨n0, _⟩ := cell_of (j := 0) (u := .pointer (some ⟨b, 0, none⟩)) (HP5.out.below hc7.1) rfl; have k7 := (hc7.1.block nb (Array.getElem?_eq_some_iff.1 HK5.out).1).trans HK5.out; obtain ⟨n1, _⟩ := cell_of (j := 0) (u := .string y) k7 rfl; obtain ⟨n2, _⟩ := cell_of (j := 1) (u := .string dt) k7 rfl; obtain ⟨n3, _⟩ := cell_of (j := 2) (u := .int .i64 (sf : Int)) k7 rfl; clear hc6 hc7 k7)
        | (go_at_call 104; refine (CW2.out _ ((drewB wc).trans ((below_alloc wc.drew (Obj.cells #[.string y, .string dt, .int .i64 (sf : Int)] 87)).mono (Nat.le_refl _)))).mono ?_; rintro e w6 ⟨v6, rfl, hc6⟩; have hc7 := hc6.pre ((drewB wc).trans ((below_alloc wc.drew (Obj.cells #[.string y, .string dt, .int .i64 (sf : Int)] 87)).mono (Nat.le_refl _))); have HC7 := hide hc7; obtain ⟨n0, _⟩ := cell_of (j := 0) (u := .pointer (some ⟨b, 0, none⟩)) (HP5.out.below hc7.1) rfl; have k7 := (hc7.1.block nb (Array.getElem?_eq_some_iff.1 HK5.out).1).trans HK5.out; obtain ⟨n1, _⟩ := cell_of (j := 0) (u := .string y) k7 rfl; obtain ⟨n2, _⟩ := cell_of (j := 1) (u := .string dt) k7 rfl; obtain ⟨n3, _⟩ := cell_of (j := 2) (u := .int .i64 (sf : Int)) k7 rfl; have HNW := hide (fun j u hj => ((hc6.1.cell (p := (⟨wc.heap.size, 0, none⟩ : Addr).add j) (add_lt wc _ j)).trans (cells_new wc.drew #[.string y, .string dt, .int .i64 (sf : Int)] 87 _ rfl j u hj))); clear hc6 hc7 k7)
        | (refine step_own _ rfl _ _ 80 rfl wc.heap.size 87 i0 (.agg #[.string ⟨#[]⟩, .string ⟨#[]⟩, .int .i64 0]) 3 40 Tryz.underlying80 hi0 hz0 hz1 hz2 rfl (by decide) _ _ _ rfl (HC7.out.2.alloc _) ⟨w6.heap.size, 0, none⟩ 1 1 [.string y, .string dt, .int .i64 (sf : Int)] rfl rfl (cells_new _ _ _ _ rfl) (by intro u hu; simp at hu; rcases hu with rfl | rfl | rfl <;> rfl) (by unfold maxLen; omega) (by omega) (by have := HC7.out.1.size; simp; omega) ?_; intro v8 w8 hown8 hgrow8; obtain ⟨a8, c8, rfl, _, _⟩ := own_slice hown8; have HC8 := hide (curF_append (f := ⟨y, dt, sf⟩) HC7.out hown8 hgrow8); have HT8 := hide (HT5.out.trans (HT5.out.st.setFresh (by decide) (by omega) HC8.out)); obtain ⟨kb8, kf8⟩ := cell_of (j := 0) (u := v2) (HT5.out.st.below HC8.out.1).blk rfl; obtain ⟨o0, _⟩ := cell_of (j := 0) (u := .pointer (some ⟨b, 0, none⟩)) (HP5.out.below HC8.out.1) rfl; have k8 := (HC8.out.1.block nb (Array.getElem?_eq_some_iff.1 HK5.out).1).trans HK5.out; obtain ⟨o1, _⟩ := cell_of (j := 0) (u := .string y) k8 rfl; obtain ⟨o2, _⟩ := cell_of (j := 1) (u := .string dt) k8 rfl; obtain ⟨o3, _⟩ := cell_of (j := 2) (u := .int .i64 (sf : Int)) k8 rfl; have k9 := (set_other (w := w8) (nb := b) (o := 0) (u := .slice a8 (L.length + 1) c8) HNE.out).trans k8; obtain ⟨r0, _⟩ := cell_of (j := 0) (u := .pointer (some ⟨b, 0, none⟩)) ((set_other (w := w8) (nb := b) (o := 0) (u := .slice a8 (L.length + 1) c8) HDE.out).trans (HP5.out.below HC8.out.1)) rfl; obtain ⟨r1, _⟩ := cell_of (j := 0) (u := .string y) k9 rfl; obtain ⟨r2, _⟩ := cell_of (j := 1) (u := .string dt) k9 rfl; obtain ⟨r3, _⟩ := cell_of (j := 2) (u := .int .i64 (sf : Int)) k9 rfl; clear hown8 hgrow8 k8 k9)
        | (refine step_own _ rfl _ _ 80 rfl wc.heap.size 87 i0 (.agg #[.string ⟨#[]⟩, .string ⟨#[]⟩, .int .i64 0]) 3 40 Tryz.underlying80 hi0 hz0 hz1 hz2 rfl (by decide) _ _ _ rfl HC7.out.2 ⟨wc.heap.size, 0, none⟩ 1 1 [.string y, .string dt, .int .i64 (sf : Int)] rfl rfl HNW.out (by intro u hu; simp at hu; rcases hu with rfl | rfl | rfl <;> rfl) (by unfold maxLen; omega) (by omega) (by have := HC7.out.1.size; simp; omega) ?_; intro v8 w8 hown8 hgrow8; obtain ⟨a8, c8, rfl, _, _⟩ := own_slice hown8; have HC8 := hide (curF_append0 (f := ⟨y, dt, sf⟩) HC7.out hown8 hgrow8); have HT8 := hide (HT5.out.trans (HT5.out.st.setFresh (by decide) (by omega) HC8.out)); obtain ⟨kb8, kf8⟩ := cell_of (j := 0) (u := v2) (HT5.out.st.below HC8.out.1).blk rfl; obtain ⟨o0, _⟩ := cell_of (j := 0) (u := .pointer (some ⟨b, 0, none⟩)) (HP5.out.below HC8.out.1) rfl; have k8 := (HC8.out.1.block nb (Array.getElem?_eq_some_iff.1 HK5.out).1).trans HK5.out; obtain ⟨o1, _⟩ := cell_of (j := 0) (u := .string y) k8 rfl; obtain ⟨o2, _⟩ := cell_of (j := 1) (u := .string dt) k8 rfl; obtain ⟨o3, _⟩ := cell_of (j := 2) (u := .int .i64 (sf : Int)) k8 rfl; have k9 := (set_other (w := w8) (nb := b) (o := 0) (u := .slice a8 (L.length + 1) c8) HNE.out).trans k8; obtain ⟨r0, _⟩ := cell_of (j := 0) (u := .pointer (some ⟨b, 0, none⟩)) ((set_other (w := w8) (nb := b) (o := 0) (u := .slice a8 (L.length + 1) c8) HDE.out).trans (HP5.out.below HC8.out.1)) rfl; obtain ⟨r1, _⟩ := cell_of (j := 0) (u := .string y) k9 rfl; obtain ⟨r2, _⟩ := cell_of (j := 1) (u := .string dt) k9 rfl; obtain ⟨r3, _⟩ := cell_of (j := 2) (u := .int .i64 (sf : Int)) k9 rfl; clear hown8 hgrow8 k8 k9))
    all_goals (go_wp2; go_ret; exact ⟨rfl, _, by rw [HL.out, HDT.out, HSF.out, ← HFV.out]; exact HT8.out⟩)
end Go.Proofs.YtkncboinfcnklabGreatDoor
