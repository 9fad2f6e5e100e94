import Derived.Test.YtkncboinfcnklabGreatDoorQ17
namespace Go.Proofs.YtkncboinfcnklabGreatDoor
open Go.RowKit Go.Deep Go.Shelf Go.Proofs.YtkncboinfcnklabGreatDoor.Mth

/-! ### what a log has, held against all that was laid down -/
theorem segs_eq (lev : Nat → List (List Ent)) : segs lev = lev 5 ++ (lev 4 ++ (lev 3 ++ (lev 2 ++ (lev 1 ++ lev 0)))) := by
  have : downTo 6 = [⟨5, by omega⟩, ⟨4, by omega⟩, ⟨3, by omega⟩, ⟨2, by omega⟩, ⟨1, by omega⟩, ⟨0, by omega⟩] := by decide
  unfold segs
  rw [this]
  simp only [List.flatMap_cons, List.flatMap_nil, List.append_nil]
def sto (L : Lg) : List Ent := (segs L.lev).flatten ++ L.mem
theorem sto_eq (L : Lg) : sto L = (L.lev 5).flatten ++ ((L.lev 4).flatten ++ ((L.lev 3).flatten ++ ((L.lev 2).flatten ++ ((L.lev 1).flatten ++ ((L.lev 0).flatten ++ L.mem))))) := by
  unfold sto
  rw [segs_eq]
  simp [List.flatten_append]
theorem lev_segs {lev : Nat → List (List Ent)} {i : Nat} (hi : i < 6) {es : List Ent} (h : es ∈ lev i) : es ∈ segs lev := by
  rw [segs_eq]
  simp only [List.mem_append]
  rcases (show i = 0 ∨ i = 1 ∨ i = 2 ∨ i = 3 ∨ i = 4 ∨ i = 5 by omega) with rfl | rfl | rfl | rfl | rfl | rfl <;> simp [h]
theorem segs_lev {lev : Nat → List (List Ent)} {es : List Ent} (h : es ∈ segs lev) : ∃ i, i < 6 ∧ es ∈ lev i := by
  rw [segs_eq] at h
  simp only [List.mem_append] at h
  rcases h with h | h | h | h | h | h
  · exact ⟨5, by omega, h⟩
  · exact ⟨4, by omega, h⟩
  · exact ⟨3, by omega, h⟩
  · exact ⟨2, by omega, h⟩
  · exact ⟨1, by omega, h⟩
  · exact ⟨0, by omega, h⟩
structure AllOk (all : List Ent) (clock : Nat) : Prop where
  num : ∀ j, j < all.length → (all.getD j e0).seq = (j : Int)
  tms : all.Pairwise (fun a b => a.time ≤ b.time)
  bd : ∀ e ∈ all, 0 ≤ e.time ∧ e.time ≤ (clock : Int) ∧ e.text.size ≤ 60
theorem AllOk.sqs {all : List Ent} {c : Nat} (h : AllOk all c) : all.Pairwise (fun a b => a.seq < b.seq) := by
  rw [List.pairwise_iff_getElem]
  intro i j hi hj hij
  have h1 := h.num i hi
  have h2 := h.num j hj
  rw [← List.getElem_eq_getD (h := hi)] at h1
  rw [← List.getElem_eq_getD (h := hj)] at h2
  omega
theorem AllOk.mem {all : List Ent} {c : Nat} (h : AllOk all c) {e : Ent} (he : e ∈ all) : ∃ j, j < all.length ∧ e.seq = (j : Int) ∧ all.getD j e0 = e := by
  obtain ⟨j, hj, rfl⟩ := List.getElem_of_mem he
  have h1 := h.num j hj
  rw [← List.getElem_eq_getD (h := hj)] at h1
  exact ⟨j, hj, h1, by rw [List.getElem_eq_getD e0]⟩
theorem AllOk.later {all : List Ent} {c n : Nat} (h : AllOk all c) : AllOk all (c + n) := ⟨h.num, h.tms, fun e he => by have := h.bd e he; omega⟩
theorem AllOk.snoc {all : List Ent} {c : Nat} (h : AllOk all c) {s : ByteArray} (hs : s.size ≤ 60) : AllOk (all ++ [⟨(all.length : Int), (c : Int), s⟩]) c := by
  refine ⟨fun j hj => ?_, ?_, fun e he => ?_⟩
  · by_cases h1 : j < all.length
    · have := h.num j h1
      rw [← List.getElem_eq_getD (h := h1)] at this
      rw [← List.getElem_eq_getD (h := hj), List.getElem_append_left h1]
      exact this
    · have e : j = all.length := by simp at hj; omega
      subst e
      simp [List.getD]
  · rw [List.pairwise_append]
    refine ⟨h.tms, List.pairwise_singleton _ _, fun a ha b hb => ?_⟩
    rw [List.mem_singleton.1 hb]
    exact (h.bd a ha).2.1
  · rcases List.mem_append.1 he with h1 | h1
    · exact h.bd e h1
    · rw [List.mem_singleton.1 h1]
      exact ⟨by simp, by simp, hs⟩

structure Inv (L : Lg) (all : List Ent) : Prop where
  cfg : (1 ≤ L.memory ∧ L.memory ≤ 8) ∧ (2 ≤ L.fan ∧ L.fan ≤ 4) ∧ L.back ≤ 4 ∧ (1 ≤ L.keep ∧ L.keep ≤ 1000000) ∧ (1 ≤ L.batch ∧ L.batch ≤ 8) ∧ 0 < L.wks.length
  clk : L.clock ≤ 1000000000000
  ok : AllOk all L.clock
  cnt : L.count = all.length
  sub : (sto L).Sublist all
  gone : ∀ e ∈ all, ¬ e ∈ sto L → e.time < (L.clock : Int) - (L.keep : Int) ∧ ∀ x p, L.tls x = some p → e.seq < (p.2 : Int)
  ne : ∀ es ∈ segs L.lev, es ≠ []
  ml : L.mem.length ≤ L.memory
  one : ∀ i, ct L.wks i ≤ 1
  big : ∀ i, 0 < ct L.wks i → i ≤ 4 ∧ L.fan ≤ (L.lev i).length
  due : ∀ i, i ≤ 4 → L.fan ≤ (L.lev i).length → 0 < ct L.wks i
  rd : ∀ q, q < L.wks.length → (∀ i, (L.wks.getD q wk0).runs = some i → (L.wks.getD q wk0).read < L.fan) ∧ ((L.wks.getD q wk0).runs = none → (L.wks.getD q wk0).read = 0)
  plc : ∀ x p, L.tls x = some p → p.2 ≤ L.count

/-! what follows -/
theorem sub_filter {α : Type} {Q : α → Bool} {R : α → α → Prop} (hR : ∀ a, ¬ R a a) : ∀ {l m : List α}, l.Sublist m → m.Pairwise R → (∀ e ∈ m, Q e = true → e ∈ l) → l.filter Q = m.filter Q
  | _, _, .slnil, _, _ => rfl
  | l, _, .cons (l₂ := m) a h, hp, hq => by
    have hp' := List.pairwise_cons.1 hp
    have hno : Q a = false := by
      cases hQ : Q a
      · rfl
      · have := h.subset (hq a (by simp) hQ)
        exact absurd (hp'.1 a this) (hR a)
    rw [List.filter_cons, hno]
    exact sub_filter hR h hp'.2 (fun e he hQ => hq e (by simp [he]) hQ)
  | _, _, .cons_cons (l₁ := l) (l₂ := m) a h, hp, hq => by
    have hp' := List.pairwise_cons.1 hp
    rw [List.filter_cons, List.filter_cons]
    rw [sub_filter hR h hp'.2 (fun e he hQ => by
      rcases List.mem_cons.1 (hq e (by simp [he]) hQ) with e1 | e1
      · subst e1; exact absurd (hp'.1 e he) (hR e)
      · exact e1)]
theorem Inv.filter {L : Lg} {all : List Ent} (h : Inv L all) (Q : Ent → Bool) (hQ : ∀ e ∈ all, Q e = true → e ∈ sto L) : (sto L).filter Q = all.filter Q :=
  sub_filter (R := fun a b : Ent => a.seq < b.seq) (fun a => by omega) h.sub h.ok.sqs hQ
theorem pw_getD {R : Ent → Ent → Prop} (hr : ∀ a, R a a) {l : List Ent} (h : l.Pairwise R) : ∀ i j, i ≤ j → j < l.length → R (l.getD i e0) (l.getD j e0) := by
  intro i j hij hj
  rw [← List.getElem_eq_getD (h := by omega), ← List.getElem_eq_getD (h := hj)]
  by_cases e : i = j
  · subst e; exact hr _
  · exact List.pairwise_iff_getElem.1 h i j (by omega) hj (by omega)
theorem Inv.segSub {L : Lg} {all : List Ent} (h : Inv L all) {es : List Ent} (he : es ∈ segs L.lev) : es.Sublist all :=
  ((List.sublist_flatten_of_mem he).trans (List.sublist_append_left _ _)).trans h.sub
theorem Inv.memSub {L : Lg} {all : List Ent} (h : Inv L all) : L.mem.Sublist all := (List.sublist_append_right _ _).trans h.sub
theorem Inv.tmsOf {L : Lg} {all : List Ent} (h : Inv L all) {es : List Ent} (he : es.Sublist all) : Tms es := pw_getD (R := fun a b => a.time ≤ b.time) (fun _ => by omega) (h.ok.tms.sublist he)
theorem Inv.sqsOf {L : Lg} {all : List Ent} (h : Inv L all) {es : List Ent} (he : es.Sublist all) : Sqs es := pw_getD (R := fun a b => a.seq ≤ b.seq) (fun _ => by omega) ((h.ok.sqs.imp (fun h => by omega)).sublist he)
theorem flat_ge : ∀ {l : List (List Ent)}, (∀ es ∈ l, es ≠ []) → l.length ≤ l.flatten.length
  | [], _ => by simp
  | es :: l, h => by
    have := flat_ge (l := l) (fun x hx => h x (by simp [hx]))
    have h1 : 0 < es.length := List.length_pos_iff.2 (h es (by simp))
    rw [List.length_cons, List.flatten_cons, List.length_append]
    omega
theorem Inv.stoLen {L : Lg} {all : List Ent} (h : Inv L all) : (segs L.lev).flatten.length + L.mem.length ≤ all.length := by
  have := h.sub.length_le
  unfold sto at this
  rw [List.length_append] at this
  exact this
theorem Inv.levs {L : Lg} {all : List Ent} (h : Inv L all) : (L.lev 0).length + (L.lev 1).length + (L.lev 2).length + (L.lev 3).length + (L.lev 4).length + (L.lev 5).length ≤ all.length := by
  have h1 := flat_ge h.ne
  have h2 := h.stoLen
  rw [segs_eq] at h1
  rw [segs_eq] at h2
  simp only [List.length_append] at h1
  omega
theorem Inv.lev {L : Lg} {all : List Ent} (h : Inv L all) (i : Nat) (hi : i < 6) : (L.lev i).length ≤ all.length := by
  have := h.levs
  rcases (show i = 0 ∨ i = 1 ∨ i = 2 ∨ i = 3 ∨ i = 4 ∨ i = 5 by omega) with rfl | rfl | rfl | rfl | rfl | rfl <;> omega
theorem Inv.levFlat {L : Lg} {all : List Ent} (h : Inv L all) (i n : Nat) (hi : i < 6) : ((L.lev i).take n).flatten.length ≤ all.length := by
  have h1 : ((L.lev i).take n).flatten.length ≤ (L.lev i).flatten.length := by
    have := congrArg List.length (congrArg List.flatten (List.take_append_drop n (L.lev i)))
    rw [List.flatten_append, List.length_append] at this
    omega
  have h2 := h.sub.length_le
  rw [sto_eq] at h2
  simp only [List.length_append] at h2
  rcases (show i = 0 ∨ i = 1 ∨ i = 2 ∨ i = 3 ∨ i = 4 ∨ i = 5 by omega) with rfl | rfl | rfl | rfl | rfl | rfl <;> omega
theorem Inv.texts {L : Lg} {all : List Ent} (h : Inv L all) {i : Nat} (hi : i < 6) : ∀ es ∈ L.lev i, ∀ e ∈ es, e.text.size ≤ 60 := fun _ hes e he => (h.ok.bd e ((h.segSub (lev_segs hi hes)).subset he)).2.2
/-- The new tasks' count. -/
theorem due_after {fan : Nat} {n : Nat → Nat} {ks : List Wk} (h0 : 0 < ks.length) (h1 : ∀ i, ct ks i ≤ 1) (h2 : ∀ i, 0 < ct ks i → i ≤ 4 ∧ fan ≤ n i) :
    (∀ i, ct (layTo fan n ks 5) i ≤ 1) ∧ (∀ i, 0 < ct (layTo fan n ks 5) i → i ≤ 4 ∧ fan ≤ n i) ∧ (∀ i, i ≤ 4 → fan ≤ n i → 0 < ct (layTo fan n ks 5) i) := by
  refine ⟨fun i => ?_, fun i hi => ?_, fun i hi hf => ?_⟩
  · rw [layTo_ct fan n ks h0]
    have := h1 i
    split <;> omega
  · rw [layTo_ct fan n ks h0] at hi
    by_cases h : 0 < ct ks i
    · exact h2 i h
    · split at hi
      · rename_i q
        exact ⟨by omega, q.2.1⟩
      · omega
  · rw [layTo_ct fan n ks h0]
    by_cases h : ct ks i = 0
    · rw [if_pos ⟨by omega, hf, h⟩]; omega
    · omega
/-- An entry is laid down. -/
theorem Inv.app {L : Lg} {all : List Ent} (h : Inv L all) {s : ByteArray} (hs : s.size ≤ 60) : Inv (L.app s) (all ++ [⟨(all.length : Int), (L.clock : Int), s⟩]) := by
  have hsto : sto (L.app s) = sto L ++ [⟨(L.count : Int), (L.clock : Int), s⟩] := by
    rw [sto_eq, sto_eq]
    unfold Lg.app Lg.more
    by_cases hf : L.memory ≤ L.mem.length
    · rw [if_pos hf]
      simp [Lg.roll, List.flatten_append]
    · rw [if_neg hf]
      simp
  have hcf : (L.app s).memory = L.memory ∧ (L.app s).fan = L.fan ∧ (L.app s).back = L.back ∧ (L.app s).keep = L.keep ∧ (L.app s).batch = L.batch ∧ (L.app s).clock = L.clock ∧ (L.app s).tls = L.tls ∧ (L.app s).count = L.count + 1 ∧ (L.app s).wks.length = L.wks.length := by
    unfold Lg.app Lg.more
    by_cases hf : L.memory ≤ L.mem.length
    · rw [if_pos hf]
      refine ⟨rfl, rfl, rfl, rfl, rfl, rfl, rfl, rfl, ?_⟩
      exact layTo_len _ _ _ _
    · rw [if_neg hf]
      exact ⟨rfl, rfl, rfl, rfl, rfl, rfl, rfl, rfl, rfl⟩
  obtain ⟨c1, c2, c3, c4, c5, c6, c7, c8, c9⟩ := hcf
  refine ⟨by rw [c1, c2, c3, c4, c5, c9]; exact h.cfg, by rw [c6]; exact h.clk, by rw [c6]; exact h.ok.snoc hs, by rw [c8, h.cnt]; simp, ?_, ?_, ?_, ?_, ?_, ?_, ?_, ?_, ?_⟩
  · rw [hsto, h.cnt]
    exact h.sub.append (List.Sublist.refl _)
  · intro e he hn
    rw [c4, c6, c7]
    rw [hsto, List.mem_append, h.cnt] at hn
    rcases List.mem_append.1 he with h1 | h1
    · exact h.gone e h1 (fun q => hn (Or.inl q))
    · exact absurd (Or.inr h1) hn
  · intro es he
    obtain ⟨i, hi, he⟩ := segs_lev he
    unfold Lg.app Lg.more at he
    by_cases hf : L.memory ≤ L.mem.length
    · rw [if_pos hf] at he
      simp only [Lg.roll] at he
      split at he
      · rcases List.mem_append.1 he with h1 | h1
        · exact h.ne es (lev_segs hi h1)
        · rw [List.mem_singleton.1 h1]
          intro q
          have := h.cfg.1.1
          rw [q] at hf
          simp at hf
          omega
      · exact h.ne es (lev_segs hi he)
    · rw [if_neg hf] at he
      exact h.ne es (lev_segs hi he)
  · rw [c1]
    unfold Lg.app Lg.more
    have := h.cfg.1.1
    by_cases hf : L.memory ≤ L.mem.length
    · rw [if_pos hf]
      simp [Lg.roll]
      omega
    · rw [if_neg hf]
      simp
      omega
  all_goals
    unfold Lg.app Lg.more
    by_cases hf : L.memory ≤ L.mem.length
    · rw [if_pos hf]
      have hd := due_after (fan := L.fan) (n := fun i => (if i = 0 then L.lev i ++ [L.mem] else L.lev i).length) h.cfg.2.2.2.2.2 h.one (fun i hi => ⟨(h.big i hi).1, by
        have := (h.big i hi).2
        by_cases q : i = 0
        · rw [if_pos q, List.length_append]; omega
        · rw [if_neg q]; exact this⟩)
      first
      | exact hd.1
      | exact hd.2.1
      | exact hd.2.2
      | (intro q hq
         have hr := layTo_runs L.fan (fun i => (if i = 0 then L.lev i ++ [L.mem] else L.lev i).length) L.wks h.cfg.2.2.2.2.2 5 q
         simp only [Lg.roll] at hq ⊢
         rw [layTo_len] at hq
         rw [hr.1, hr.2]
         exact h.rd q hq)
      | (intro x p hp
         exact Nat.le_succ_of_le (h.plc x p hp))
    · rw [if_neg hf]
      first
      | exact h.one
      | exact h.big
      | exact h.due
      | exact h.rd
      | (intro x p hp
         exact Nat.le_succ_of_le (h.plc x p hp))
/-- The time goes on. -/
theorem Inv.tick {L : Lg} {all : List Ent} (h : Inv L all) {n : Nat} (hn : L.clock + n ≤ 1000000000000) : Inv { L with clock := L.clock + n } all :=
  ⟨h.cfg, hn, h.ok.later, h.cnt, h.sub, fun e he hq => ⟨by have := (h.gone e he hq).1; simp only; omega, (h.gone e he hq).2⟩, h.ne, h.ml, h.one, h.big, h.due, h.rd, h.plc⟩
/-- Tails come, go, and go on. -/
theorem Inv.tail {L : Lg} {all : List Ent} (h : Inv L all) {tls' : Int → Option (ByteArray × Nat)} {tn' subs' : Nat} (ht : ∀ x p, tls' x = some p → p.2 ≤ L.count ∧ (p.2 = L.count ∨ ∃ p0, L.tls x = some p0 ∧ p0.2 ≤ p.2)) : Inv { L with tls := tls', tn := tn', subs := subs' } all := by
  refine ⟨h.cfg, h.clk, h.ok, h.cnt, h.sub, fun e he hq => ⟨(h.gone e he hq).1, fun x p hp => ?_⟩, h.ne, h.ml, h.one, h.big, h.due, h.rd, fun x p hp => (ht x p hp).1⟩
  rcases (ht x p hp).2 with h1 | ⟨p0, h1, h2⟩
  · obtain ⟨j, hj, h3, _⟩ := h.ok.mem he
    have := h.cnt
    omega
  · have := (h.gone e he hq).2 x p0 h1
    omega
end Go.Proofs.YtkncboinfcnklabGreatDoor

namespace Go.Proofs.YtkncboinfcnklabGreatDoor
open Go.RowKit Go.Deep Go.Shelf Go.Proofs.YtkncboinfcnklabGreatDoor.Mth

/-! ### a task ends -/
theorem mrg_lev (L : Lg) (i m j : Nat) : (L.mrg i m).lev j = if j = i then (L.lev i).drop L.fan else if j = i + 1 then L.lev (i + 1) ++ (if L.left i m = [] then [] else [L.left i m]) else L.lev j := by
  unfold Lg.mrg Lg.cut
  by_cases hl : L.left i m = []
  · rw [if_pos hl]
    simp only [hl]
    by_cases h1 : j = i
    · subst h1; simp
    · rw [if_neg h1, if_neg h1]
      by_cases h2 : j = i + 1
      · subst h2; simp
      · rw [if_neg h2]
  · rw [if_neg hl]
    simp only [Lg.put, if_neg hl]
    by_cases h1 : j = i
    · subst h1; simp
    · rw [if_neg h1, if_neg h1]
      by_cases h2 : j = i + 1
      · subst h2; simp
      · rw [if_neg h2, if_neg h2]
theorem mrg_mem (L : Lg) (i m : Nat) : (L.mrg i m).mem = L.mem ∧ (L.mrg i m).fan = L.fan ∧ (L.mrg i m).memory = L.memory ∧ (L.mrg i m).back = L.back ∧ (L.mrg i m).keep = L.keep ∧ (L.mrg i m).batch = L.batch ∧ (L.mrg i m).clock = L.clock ∧ (L.mrg i m).count = L.count ∧ (L.mrg i m).tls = L.tls ∧ (L.mrg i m).tn = L.tn ∧ (L.mrg i m).subs = L.subs := by
  unfold Lg.mrg Lg.cut
  split <;> exact ⟨rfl, rfl, rfl, rfl, rfl, rfl, rfl, rfl, rfl, rfl, rfl⟩
theorem left_flat (l : List Ent) (ls : List (List Ent)) : (ls ++ (if l = [] then [] else [l])).flatten = ls.flatten ++ l := by
  by_cases h : l = []
  · rw [if_pos h, h]; simp
  · rw [if_neg h]; simp
theorem mrg_sto (L : Lg) (i m : Nat) (hi : i ≤ 4) : ∃ pre post, sto L = pre ++ (((L.lev i).take L.fan).flatten ++ post) ∧ sto (L.mrg i m) = pre ++ (((L.lev i).take L.fan).flatten.filter (kp ((L.clock : Int) - (L.keep : Int)) m) ++ post) := by
  have hs : (L.lev i).flatten = ((L.lev i).take L.fan).flatten ++ ((L.lev i).drop L.fan).flatten := by rw [← List.flatten_append, List.take_append_drop]
  have hl : ((L.lev i).take L.fan).flatten.filter (kp ((L.clock : Int) - (L.keep : Int)) m) = L.left i m := rfl
  have hf := left_flat (L.left i m) (L.lev (i + 1))
  rw [sto_eq L, sto_eq (L.mrg i m), (mrg_mem L i m).1, hl]
  simp only [mrg_lev]
  rcases (show i = 0 ∨ i = 1 ∨ i = 2 ∨ i = 3 ∨ i = 4 by omega) with rfl | rfl | rfl | rfl | rfl
  · refine ⟨(L.lev 5).flatten ++ ((L.lev 4).flatten ++ ((L.lev 3).flatten ++ ((L.lev 2).flatten ++ (L.lev 1).flatten))), ((L.lev 0).drop L.fan).flatten ++ L.mem, ?_, ?_⟩
    · rw [hs]; simp only [List.append_assoc]
    · simp only [Nat.zero_add] at hf
      simp [hf, List.append_assoc]
  · refine ⟨(L.lev 5).flatten ++ ((L.lev 4).flatten ++ ((L.lev 3).flatten ++ (L.lev 2).flatten)), ((L.lev 1).drop L.fan).flatten ++ ((L.lev 0).flatten ++ L.mem), ?_, ?_⟩
    · rw [hs]; simp only [List.append_assoc]
    · simp only [Nat.reduceAdd] at hf
      simp [hf, List.append_assoc]
  · refine ⟨(L.lev 5).flatten ++ ((L.lev 4).flatten ++ (L.lev 3).flatten), ((L.lev 2).drop L.fan).flatten ++ ((L.lev 1).flatten ++ ((L.lev 0).flatten ++ L.mem)), ?_, ?_⟩
    · rw [hs]; simp only [List.append_assoc]
    · simp only [Nat.reduceAdd] at hf
      simp [hf, List.append_assoc]
  · refine ⟨(L.lev 5).flatten ++ (L.lev 4).flatten, ((L.lev 3).drop L.fan).flatten ++ ((L.lev 2).flatten ++ ((L.lev 1).flatten ++ ((L.lev 0).flatten ++ L.mem))), ?_, ?_⟩
    · rw [hs]; simp only [List.append_assoc]
    · simp only [Nat.reduceAdd] at hf
      simp [hf, List.append_assoc]
  · refine ⟨(L.lev 5).flatten, ((L.lev 4).drop L.fan).flatten ++ ((L.lev 3).flatten ++ ((L.lev 2).flatten ++ ((L.lev 1).flatten ++ ((L.lev 0).flatten ++ L.mem)))), ?_, ?_⟩
    · rw [hs]; simp only [List.append_assoc]
    · simp only [Nat.reduceAdd] at hf
      simp [hf, List.append_assoc]
/-- How much there is to do. -/
def lsum (lev : Nat → List (List Ent)) : Nat := 6 * (lev 0).length + 5 * (lev 1).length + 4 * (lev 2).length + 3 * (lev 3).length + 2 * (lev 4).length + (lev 5).length
def mu (L : Lg) : Nat := (L.fan + 1) * lsum L.lev + pots L.fan L.wks
theorem mrg_lsum (L : Lg) (i m : Nat) (hi : i ≤ 4) (hf : L.fan ≤ (L.lev i).length) (h2 : 2 ≤ L.fan) : lsum (L.mrg i m).lev + 3 ≤ lsum L.lev := by
  have hx : (if L.left i m = [] then ([] : List (List Ent)) else [L.left i m]).length ≤ 1 := by split <;> simp
  unfold lsum
  simp only [mrg_lev]
  generalize (if L.left i m = [] then ([] : List (List Ent)) else [L.left i m]) = z at *
  rcases (show i = 0 ∨ i = 1 ∨ i = 2 ∨ i = 3 ∨ i = 4 by omega) with rfl | rfl | rfl | rfl | rfl <;> simp [List.length_append, List.length_drop] <;> omega

theorem Inv.ends {L : Lg} {all : List Ent} (h : Inv L all) {q i m : Nat} (hq : q < L.wks.length) (hr : (L.wks.getD q wk0).runs = some i) (hm : Need L m) :
    Inv (Lg.ends { L with wks := L.wks.set q ⟨(L.wks.getD q wk0).list, none, 0⟩ } i m) all ∧ mu (Lg.ends { L with wks := L.wks.set q ⟨(L.wks.getD q wk0).list, none, 0⟩ } i m) < mu L := by
  have hct : ∀ j, ct (L.wks.set q ⟨(L.wks.getD q wk0).list, none, 0⟩) j + (if i = j then 1 else 0) = ct L.wks j := by
    intro j
    have := sum_set (tc j) L.wks q ⟨(L.wks.getD q wk0).list, none, 0⟩ hq
    have e1 : tc j (L.wks.getD q wk0) = (L.wks.getD q wk0).list.count j + (if i = j then 1 else 0) := by unfold tc; rw [hr]; simp only [Option.some.injEq]
    have e2 : tc j ⟨(L.wks.getD q wk0).list, none, 0⟩ = (L.wks.getD q wk0).list.count j := tc_none rfl
    rw [e1, e2] at this
    unfold ct
    omega
  have hi1 : 0 < ct L.wks i := by have := hct i; rw [if_pos rfl] at this; omega
  obtain ⟨hi4, hfi⟩ := h.big i hi1
  have hpot : pots L.fan (L.wks.set q ⟨(L.wks.getD q wk0).list, none, 0⟩) + (L.fan - (L.wks.getD q wk0).read) = pots L.fan L.wks := by
    have := sum_set (pot L.fan) L.wks q ⟨(L.wks.getD q wk0).list, none, 0⟩ hq
    have e1 : pot L.fan (L.wks.getD q wk0) = (L.fan + 1) * (L.wks.getD q wk0).list.length + (L.fan - (L.wks.getD q wk0).read) := by unfold pot; rw [hr]; rfl
    have e2 : pot L.fan ⟨(L.wks.getD q wk0).list, none, 0⟩ = (L.fan + 1) * (L.wks.getD q wk0).list.length := pot_none rfl
    rw [e1, e2] at this
    unfold pots
    omega
  have hrd := (h.rd q hq).1 i hr
  generalize hks : L.wks.set q ⟨(L.wks.getD q wk0).list, none, 0⟩ = ks at *
  have hkl : ks.length = L.wks.length := by rw [← hks]; simp
  have hk0 : 0 < ks.length := by rw [hkl]; exact h.cfg.2.2.2.2.2
  have hrds : ∀ p, p < ks.length → (∀ j, (ks.getD p wk0).runs = some j → (ks.getD p wk0).read < L.fan) ∧ ((ks.getD p wk0).runs = none → (ks.getD p wk0).read = 0) := by
    intro p hp
    rw [← hks, getD_set hq]
    split
    · exact ⟨(fun j e => by cases e), (fun _ => rfl)⟩
    · exact h.rd p (by omega)
  have hM : ∃ M, M = Lg.mrg { L with wks := ks } i m := ⟨_, rfl⟩
  obtain ⟨M, hM⟩ := hM
  obtain ⟨m1, m2, m3, m4, m5, m6, m7, m8, m9, m10, m11⟩ := mrg_mem { L with wks := ks } i m
  obtain ⟨pre, post, s1, s2⟩ := mrg_sto { L with wks := ks } i m hi4
  have hls := mrg_lsum { L with wks := ks } i m hi4 hfi h.cfg.2.1.1
  have hlv := fun j => mrg_lev { L with wks := ks } i m j
  rw [← hM] at m1 m2 m3 m4 m5 m6 m7 m8 m9 m10 m11 s2 hls hlv
  simp only at m1 m2 m3 m4 m5 m6 m7 m8 m9 m10 m11 s1 s2 hls hlv
  have hE : Lg.ends { L with wks := ks } i m = { M with wks := layTo L.fan (fun j => (M.lev j).length) ks 5 } := by rw [hM]; rfl
  have hstoE : sto { M with wks := layTo L.fan (fun j => (M.lev j).length) ks 5 } = sto M := rfl
  have hs1 : sto { L with wks := ks } = sto L := rfl
  rw [hs1] at s1
  rw [hE]
  have hneed : ∀ j, L.fan ≤ (M.lev j).length → j ≤ 4 → ct ks j = 0 → j = i ∨ j = i + 1 := by
    intro j hf hj hc
    by_cases e1 : j = i
    · exact Or.inl e1
    · by_cases e2 : j = i + 1
      · exact Or.inr e2
      · rw [hlv j, if_neg e1, if_neg e2] at hf
        have := h.due j hj hf
        have h2 := hct j
        rw [if_neg (fun e => e1 e.symm)] at h2
        omega
  have hbig : ∀ j, 0 < ct ks j → j ≤ 4 ∧ L.fan ≤ (M.lev j).length := by
    intro j hj
    have h2 := hct j
    have h3 := h.one j
    by_cases e : i = j
    · rw [if_pos e] at h2; omega
    · rw [if_neg e] at h2
      have h4 := h.big j (by omega)
      refine ⟨h4.1, ?_⟩
      rw [hlv j, if_neg (fun q => e q.symm)]
      split
      · rename_i e2
        rw [List.length_append, ← e2]
        omega
      · exact h4.2
  have hd := due_after (fan := L.fan) (n := fun j => (M.lev j).length) hk0 (fun j => by have := hct j; have := h.one j; omega) hbig
  refine ⟨⟨?_, ?_, ?_, ?_, ?_, ?_, ?_, ?_, ?_, ?_, ?_, ?_, ?_⟩, ?_⟩
  · simp only [layTo_len, hkl, m2, m3, m4, m5, m6]
    exact h.cfg
  · simp only [m7]; exact h.clk
  · simp only [m7]; exact h.ok
  · simp only [m8]; exact h.cnt
  · rw [hstoE, s2]
    have := h.sub
    rw [s1] at this
    exact (List.Sublist.append_left (List.Sublist.append_right List.filter_sublist _) _).trans this
  · intro e he hn
    rw [hstoE, s2] at hn
    simp only [m5, m7, m9]
    by_cases hin : e ∈ sto L
    · rw [s1] at hin
      simp only [List.mem_append, List.mem_filter, not_or, not_and] at hn hin
      obtain ⟨n1, n2, n3⟩ := hn
      have ha : e ∈ ((L.lev i).take L.fan).flatten := by
        rcases hin with h1 | h1 | h1
        · exact absurd h1 n1
        · exact h1
        · exact absurd h1 n3
      have hkp := n2 ha
      simp only [kp, Bool.or_eq_true, decide_eq_true_eq, not_or] at hkp
      refine ⟨by omega, fun x p hp => ?_⟩
      have := hm.2.1 x p hp
      omega
    · exact h.gone e he hin
  · intro es hes
    obtain ⟨j, hj, hes⟩ := segs_lev hes
    simp only at hes
    rw [hlv j] at hes
    split at hes
    · rename_i e
      exact h.ne es (lev_segs (i := i) (by omega) (List.mem_of_mem_drop hes))
    · split at hes
      · rcases List.mem_append.1 hes with h1 | h1
        · exact h.ne es (lev_segs (i := i + 1) (by omega) h1)
        · split at h1
          · cases h1
          · rename_i hnl
            rw [List.mem_singleton.1 h1]
            exact hnl
      · exact h.ne es (lev_segs hj hes)
  · simp only [m1, m3]; exact h.ml
  · exact hd.1
  · simp only [m2]; exact hd.2.1
  · simp only [m2]; exact hd.2.2
  · intro p hp
    simp only [layTo_len] at hp
    have hr2 := layTo_runs L.fan (fun j => (M.lev j).length) ks hk0 5 p
    simp only [m2]
    rw [hr2.1, hr2.2]
    exact hrds p hp
  · simp only [m8, m9]; exact h.plc
  · unfold mu
    simp only [m2]
    rw [layTo_pot L.fan (fun j => (M.lev j).length) ks hk0 5]
    have hdn : dn L.fan (fun j => (M.lev j).length) ks 5 ≤ 2 := by
      have hj : ∀ j, j ≤ 4 → j ≠ i → j ≠ i + 1 → ¬ (L.fan ≤ (M.lev j).length ∧ ct ks j = 0) := fun j h4 e1 e2 hh => by
        rcases hneed j hh.1 h4 hh.2 with e | e
        · exact e1 e
        · exact e2 e
      have hone : ∀ j, (if L.fan ≤ (M.lev j).length ∧ ct ks j = 0 then 1 else 0) ≤ 1 := fun j => by split <;> omega
      have hz : ∀ j, j ≤ 4 → j ≠ i → j ≠ i + 1 → (if L.fan ≤ (M.lev j).length ∧ ct ks j = 0 then 1 else 0) = 0 := fun j a b c => if_neg (hj j a b c)
      have o0 := hone 0; have o1 := hone 1; have o2 := hone 2; have o3 := hone 3; have o4 := hone 4
      have z0 := hz 0 (by omega); have z1 := hz 1 (by omega); have z2 := hz 2 (by omega); have z3 := hz 3 (by omega); have z4 := hz 4 (by omega)
      simp only [dn]
      rcases (show i = 0 ∨ i = 1 ∨ i = 2 ∨ i = 3 ∨ i = 4 by omega) with rfl | rfl | rfl | rfl | rfl
      · have := z2 (by omega) (by omega); have := z3 (by omega) (by omega); have := z4 (by omega) (by omega); omega
      · have := z0 (by omega) (by omega); have := z3 (by omega) (by omega); have := z4 (by omega) (by omega); omega
      · have := z0 (by omega) (by omega); have := z1 (by omega) (by omega); have := z4 (by omega) (by omega); omega
      · have := z0 (by omega) (by omega); have := z1 (by omega) (by omega); have := z2 (by omega) (by omega); omega
      · have := z0 (by omega) (by omega); have := z1 (by omega) (by omega); have := z2 (by omega) (by omega); have := z3 (by omega) (by omega); omega
    have e1 : (L.fan + 1) * (lsum M.lev + 3) ≤ (L.fan + 1) * lsum L.lev := Nat.mul_le_mul_left _ hls
    have e2 : (L.fan + 1) * dn L.fan (fun j => (M.lev j).length) ks 5 ≤ (L.fan + 1) * 2 := Nat.mul_le_mul_left _ hdn
    rw [Nat.mul_add] at e1
    omega
/-- A worker's step: what it does, and what it leaves to do. -/
theorem Inv.step {L L' : Lg} {all : List Ent} (h : Inv L all) {q : Nat} {r : Int} (hq : q < L.wks.length) (hs : StepR L q r L') :
    Inv L' all ∧ 0 ≤ r ∧ r ≤ 2 ∧ L'.mem = L.mem ∧ ((r = 0 ∧ L' = L ∧ (L.wks.getD q wk0).runs = none ∧ ∀ k ∈ L.wks, k.list = []) ∨ mu L' < mu L) := by
  unfold StepR at hs
  cases hr : (L.wks.getD q wk0).runs with
  | none =>
    rw [hr] at hs
    simp only at hs
    have hz := (h.rd q hq).2 hr
    by_cases h0 : 0 < (L.wks.getD q wk0).list.length
    · rw [if_pos h0] at hs
      obtain ⟨rfl, rfl⟩ := hs
      have hc := fun j => take_own_ct L.wks q ((L.wks.getD q wk0).list.length - 1) j hq (by omega) hr
      have hp := take_own_pot L.fan L.wks q ((L.wks.getD q wk0).list.length - 1) hq (by omega) hr hz
      refine ⟨⟨by simp only [List.length_set, era_len]; exact h.cfg, h.clk, h.ok, h.cnt, h.sub, h.gone, h.ne, h.ml, fun i => by rw [hc]; exact h.one i, fun i hi => by rw [hc] at hi; exact h.big i hi, fun i hi hf => by rw [hc]; exact h.due i hi hf, fun p hp => ?_, h.plc⟩, by omega, by omega, rfl, Or.inr ?_⟩
      · simp only [List.length_set, era_len] at hp
        rw [getD_set (by rw [era_len]; exact hq)]
        have hfz := h.cfg.2.1
        split
        · rename_i e
          unfold era
          rw [getD_set hq, if_pos rfl]
          exact ⟨fun i _ => by simp only; omega, fun e => by cases e⟩
        · rename_i e
          unfold era
          rw [getD_set hq, if_neg e]
          exact h.rd p hp
      · unfold mu
        simp only
        omega
    · rw [if_neg h0] at hs
      by_cases ho : (L.wks.getD (bst L.wks L.wks.length) wk0).list.length = 0
      · rw [if_pos ho] at hs
        obtain ⟨rfl, rfl⟩ := hs
        refine ⟨h, by omega, by omega, rfl, Or.inl ⟨rfl, rfl, rfl, fun k hk => ?_⟩⟩
        have hb : ∀ n p, p < n → ((L'.wks.getD p wk0).list.length ≤ (L'.wks.getD (bst L'.wks n) wk0).list.length) := by
          intro n
          induction n with
          | zero => intro p hp; omega
          | succ n ih =>
            intro p hp
            rw [bst]
            by_cases e : p = n
            · subst e
              split <;> omega
            · have := ih p (by omega)
              split <;> omega
        obtain ⟨p, hp, rfl⟩ := List.getElem_of_mem hk
        have := hb L'.wks.length p hp
        rw [ho, ← List.getElem_eq_getD (h := hp)] at this
        exact List.length_eq_zero_iff.1 (by omega)
      · rw [if_neg ho] at hs
        obtain ⟨rfl, rfl⟩ := hs
        have hol : bst L.wks L.wks.length < L.wks.length := bst_lt _ _ h.cfg.2.2.2.2.2
        generalize bst L.wks L.wks.length = o at *
        have hne : q ≠ o := fun e => by rw [← e] at ho; omega
        have hc := fun j => take_oth_ct L.wks q o 0 j hq hol hne (by omega) hr
        have hp := take_oth_pot L.fan L.wks q o 0 hq hol hne (by omega) hr hz
        refine ⟨⟨by simp only [List.length_set, era_len]; exact h.cfg, h.clk, h.ok, h.cnt, h.sub, h.gone, h.ne, h.ml, fun i => by rw [hc]; exact h.one i, fun i hi => by rw [hc] at hi; exact h.big i hi, fun i hi hf => by rw [hc]; exact h.due i hi hf, fun p hp => ?_, h.plc⟩, by omega, by omega, rfl, Or.inr ?_⟩
        · simp only [List.length_set, era_len] at hp
          rw [getD_set (by rw [era_len]; exact hq)]
          have hfz := h.cfg.2.1
          split
          · rename_i e
            unfold era
            rw [getD_set hol, if_neg hne]
            exact ⟨fun i _ => by simp only; omega, fun e => by cases e⟩
          · rename_i e
            unfold era
            rw [getD_set hol]
            split
            · rename_i e2
              rw [← e2]
              exact h.rd _ hp
            · exact h.rd p hp
        · unfold mu
          simp only
          omega
  | some i =>
    rw [hr] at hs
    simp only at hs
    have hz := (h.rd q hq).1 i hr
    by_cases h0 : (L.wks.getD q wk0).read + 1 < L.fan
    · rw [if_pos h0] at hs
      obtain ⟨rfl, rfl⟩ := hs
      have hc : ∀ j, ct (L.wks.set q ⟨(L.wks.getD q wk0).list, some i, (L.wks.getD q wk0).read + 1⟩) j = ct L.wks j := by
        intro j
        have := sum_set (tc j) L.wks q ⟨(L.wks.getD q wk0).list, some i, (L.wks.getD q wk0).read + 1⟩ hq
        have e1 : tc j (L.wks.getD q wk0) = (L.wks.getD q wk0).list.count j + (if i = j then 1 else 0) := by unfold tc; rw [hr]; simp only [Option.some.injEq]
        rw [tc_run, e1] at this
        unfold ct
        omega
      have hp : pots L.fan (L.wks.set q ⟨(L.wks.getD q wk0).list, some i, (L.wks.getD q wk0).read + 1⟩) + 1 = pots L.fan L.wks := by
        have := sum_set (pot L.fan) L.wks q ⟨(L.wks.getD q wk0).list, some i, (L.wks.getD q wk0).read + 1⟩ hq
        have e1 : pot L.fan (L.wks.getD q wk0) = (L.fan + 1) * (L.wks.getD q wk0).list.length + (L.fan - (L.wks.getD q wk0).read) := by unfold pot; rw [hr]; rfl
        rw [pot_run, e1] at this
        unfold pots
        omega
      refine ⟨⟨by simp only [List.length_set]; exact h.cfg, h.clk, h.ok, h.cnt, h.sub, h.gone, h.ne, h.ml, fun i => by rw [hc]; exact h.one i, fun i hi => by rw [hc] at hi; exact h.big i hi, fun i hi hf => by rw [hc]; exact h.due i hi hf, fun p hp => ?_, h.plc⟩, by omega, by omega, rfl, Or.inr ?_⟩
      · simp only [List.length_set] at hp
        rw [getD_set hq]
        split
        · exact ⟨fun i _ => h0, fun e => by cases e⟩
        · exact h.rd p hp
      · unfold mu
        simp only
        omega
    · rw [if_neg h0] at hs
      obtain ⟨rfl, m, hm, rfl⟩ := hs
      obtain ⟨a, b⟩ := h.ends hq hr hm
      exact ⟨a, by omega, by omega, (mrg_mem _ i m).1, Or.inr b⟩
end Go.Proofs.YtkncboinfcnklabGreatDoor

namespace Go.Proofs.YtkncboinfcnklabGreatDoor
open Go.RowKit Go.Deep Go.Shelf Go.Proofs.YtkncboinfcnklabGreatDoor.Mth

/-! ### it comes to rest -/
theorem len_count : ∀ (l : List Nat), (∀ y ∈ l, y ≤ 4) → l.length = l.count 0 + l.count 1 + l.count 2 + l.count 3 + l.count 4
  | [], _ => by simp
  | a :: l, h => by
    have ih := len_count l (fun y hy => h y (by simp [hy]))
    have ha := h a (by simp)
    rw [List.length_cons, ih]
    simp only [List.count_cons]
    rcases (show a = 0 ∨ a = 1 ∨ a = 2 ∨ a = 3 ∨ a = 4 by omega) with rfl | rfl | rfl | rfl | rfl <;> simp <;> omega
theorem pnd_tc {k : Wk} (h1 : ∀ y ∈ k.list, y ≤ 4) (h2 : ∀ y, k.runs = some y → y ≤ 4) : pnd k = tc 0 k + tc 1 k + tc 2 k + tc 3 k + tc 4 k := by
  have hl := len_count k.list h1
  unfold pnd tc
  cases hr : k.runs with
  | none => simp; omega
  | some i =>
    have hi := h2 i hr
    rcases (show i = 0 ∨ i = 1 ∨ i = 2 ∨ i = 3 ∨ i = 4 by omega) with rfl | rfl | rfl | rfl | rfl <;> simp <;> omega
theorem pends_ct : ∀ {ks : List Wk}, (∀ k ∈ ks, (∀ y ∈ k.list, y ≤ 4) ∧ (∀ y, k.runs = some y → y ≤ 4)) → pends ks = ct ks 0 + ct ks 1 + ct ks 2 + ct ks 3 + ct ks 4
  | [], _ => by simp [pends, ct]
  | k :: ks, h => by
    have ih := pends_ct (ks := ks) (fun x hx => h x (by simp [hx]))
    have h1 := pnd_tc (h k (by simp)).1 (h k (by simp)).2
    simp only [pends, ct, List.map_cons, List.sum_cons] at ih ⊢
    omega
theorem Inv.small {L : Lg} {all : List Ent} (h : Inv L all) : ∀ k ∈ L.wks, (∀ y ∈ k.list, y ≤ 4) ∧ (∀ y, k.runs = some y → y ≤ 4) := by
  intro k hk
  refine ⟨fun y hy => (h.big y (Nat.lt_of_lt_of_le ?_ (le_sum (tc y) hk))).1, fun y hy => (h.big y (Nat.lt_of_lt_of_le ?_ (le_sum (tc y) hk))).1⟩
  · unfold tc
    have := List.count_pos_iff.2 hy
    omega
  · unfold tc
    rw [hy]
    simp
theorem Inv.pendsLe {L : Lg} {all : List Ent} (h : Inv L all) : pends L.wks ≤ 5 := by
  rw [pends_ct h.small]
  have h0 := h.one 0; have h1 := h.one 1; have h2 := h.one 2; have h3 := h.one 3; have h4 := h.one 4
  omega
theorem pends_zero {ks : List Wk} : pends ks = 0 ↔ ∀ k ∈ ks, k.runs = none ∧ k.list = [] := by
  constructor
  · intro h k hk
    have : pnd k ≤ pends ks := le_sum pnd hk
    have h0 : pnd k = 0 := by omega
    unfold pnd at h0
    cases hr : k.runs with
    | none => exact ⟨rfl, List.length_eq_zero_iff.1 (by omega)⟩
    | some i => rw [hr] at h0; simp at h0
  · intro h
    by_cases h0 : 0 < pends ks
    · obtain ⟨k, hk, hp⟩ := sum_pos pnd h0
      obtain ⟨h1, h2⟩ := h k hk
      unfold pnd at hp
      rw [h1, h2] at hp
      simp at hp
    · omega
theorem Inv.rest {L : Lg} {all : List Ent} (h : Inv L all) (hp : pends L.wks = 0) : ∀ i, i ≤ 4 → (L.lev i).length < L.fan := by
  intro i hi
  by_cases hf : L.fan ≤ (L.lev i).length
  · have h1 := h.due i hi hf
    obtain ⟨k, hk, h2⟩ := sum_pos (tc i) h1
    obtain ⟨h3, h4⟩ := pends_zero.1 hp k hk
    unfold tc at h2
    rw [h3, h4] at h2
    simp at h2
  · omega
end Go.Proofs.YtkncboinfcnklabGreatDoor
