import Derived.Test.YtkncboinfcnklaaGreatDoorQ17
import Derived.Test.YtkncboinfcnklaaGreatDoorQ12
import Derived.Deep.CutRange
namespace Go.Proofs.YtkncboinfcnklaaGreatDoor
open Go.RowKit Go.Deep Go.Shelf Go.Proofs.YtkncboinfcnklaaGreatDoor.Mth

/-! ### tasks, counted -/
theorem sum_set (f : Wk → Nat) : ∀ (ks : List Wk) (q : Nat) (k' : Wk), q < ks.length → ((ks.set q k').map f).sum + f (ks.getD q wk0) = (ks.map f).sum + f k'
  | [], q, k', h => absurd h (by simp)
  | k :: ks, 0, k', _ => by simp [List.getD]; omega
  | k :: ks, q + 1, k', h => by
    have ih := sum_set f ks q k' (by simpa using h)
    simp [List.getD] at ih ⊢
    omega
theorem sum_pos (f : Wk → Nat) : ∀ {ks : List Wk}, 0 < (ks.map f).sum → ∃ k ∈ ks, 0 < f k
  | [], h => absurd h (by simp)
  | k :: ks, h => by
    by_cases h0 : 0 < f k
    · exact ⟨k, by simp, h0⟩
    · obtain ⟨k', h1, h2⟩ := sum_pos f (ks := ks) (by simp at h; omega)
      exact ⟨k', by simp [h1], h2⟩
theorem le_sum (f : Wk → Nat) : ∀ {ks : List Wk} {k : Wk}, k ∈ ks → f k ≤ (ks.map f).sum
  | k0 :: ks, k, h => by
    rcases List.mem_cons.1 h with e | e
    · subst e; simp
    · have := le_sum f e; simp; omega
/-- How often a worker has the task of a level. -/
def tc (i : Nat) (k : Wk) : Nat := k.list.count i + (if k.runs = some i then 1 else 0)
def ct (ks : List Wk) (i : Nat) : Nat := (ks.map (tc i)).sum
theorem tkIn_iff (k : Wk) (i : Nat) : tkIn k i = true ↔ 0 < tc i k := by
  unfold tkIn tc
  by_cases h : k.runs = some i
  · simp [h]
  · simp [h, List.count_pos_iff]
theorem hasT_iff (ks : List Wk) (i : Nat) : hasT ks i = true ↔ 0 < ct ks i := by
  unfold hasT ct
  rw [List.any_eq_true]
  constructor
  · rintro ⟨k, h1, h2⟩
    exact Nat.lt_of_lt_of_le ((tkIn_iff k i).1 h2) (le_sum (tc i) h1)
  · intro h
    obtain ⟨k, h1, h2⟩ := sum_pos (tc i) h
    exact ⟨k, h1, (tkIn_iff k i).2 h2⟩
theorem hasT_no (ks : List Wk) (i : Nat) : hasT ks i = false ↔ ct ks i = 0 := by
  have := hasT_iff ks i
  cases h : hasT ks i
  · rw [h] at this; simp at this ⊢; omega
  · rw [h] at this; simp at this ⊢; omega
theorem layOne_ct (fan : Nat) (n : Nat → Nat) (ks : List Wk) (i j : Nat) (h0 : 0 < ks.length) : ct (layOne fan n ks i) j = ct ks j + (if j = i ∧ fan ≤ n i ∧ ct ks i = 0 then 1 else 0) := by
  unfold layOne
  by_cases h : fan ≤ n i ∧ hasT ks i = false
  · rw [if_pos h]
    have hq : i % ks.length < ks.length := Nat.mod_lt _ h0
    have := sum_set (tc j) ks (i % ks.length) ⟨(ks.getD (i % ks.length) wk0).list ++ [i], (ks.getD (i % ks.length) wk0).runs, (ks.getD (i % ks.length) wk0).read⟩ hq
    have h2 := (hasT_no ks i).1 h.2
    unfold ct at h2 ⊢
    generalize ((ks.set (i % ks.length) ⟨(ks.getD (i % ks.length) wk0).list ++ [i], (ks.getD (i % ks.length) wk0).runs, (ks.getD (i % ks.length) wk0).read⟩).map (tc j)).sum = s at *
    simp only [tc, List.count_append, List.count_singleton] at this
    by_cases hj : j = i
    · subst hj
      rw [if_pos ⟨rfl, h.1, h2⟩]
      simp at this
      omega
    · rw [if_neg (fun q => hj q.1)]
      have : (i == j) = false := by simp; omega
      simp [this] at *
      omega
  · rw [if_neg h, if_neg]
    · rfl
    · rintro ⟨_, h1, h2⟩
      exact h ⟨h1, (hasT_no ks i).2 h2⟩
theorem layTo_ct (fan : Nat) (n : Nat → Nat) (ks : List Wk) (h0 : 0 < ks.length) : ∀ k j, ct (layTo fan n ks k) j = ct ks j + (if j < k ∧ fan ≤ n j ∧ ct ks j = 0 then 1 else 0)
  | 0, j => by simp [layTo]
  | k + 1, j => by
    rw [layTo, layOne_ct fan n _ k j (by rw [layTo_len]; exact h0), layTo_ct fan n ks h0 k j, layTo_ct fan n ks h0 k k]
    rw [if_neg (show ¬ (k < k ∧ fan ≤ n k ∧ ct ks k = 0) from fun q => by omega), Nat.add_zero]
    by_cases hj : j = k
    · subst hj
      rw [if_neg (show ¬ (j < j ∧ fan ≤ n j ∧ ct ks j = 0) from fun q => by omega)]
      by_cases h : fan ≤ n j ∧ ct ks j = 0
      · rw [if_pos ⟨rfl, h⟩, if_pos ⟨by omega, h⟩]
      · rw [if_neg (fun q => h q.2), if_neg (fun q => h q.2)]
    · rw [if_neg (show ¬ (j = k ∧ fan ≤ n k ∧ ct ks k = 0) from fun q => hj q.1), Nat.add_zero]
      by_cases h : j < k ∧ fan ≤ n j ∧ ct ks j = 0
      · rw [if_pos h, if_pos ⟨by omega, h.2⟩]
      · rw [if_neg h, if_neg (fun q => h ⟨by omega, q.2⟩)]
/-- What is the same of each worker. -/
theorem layTo_runs (fan : Nat) (n : Nat → Nat) (ks : List Wk) (h0 : 0 < ks.length) : ∀ k q, ((layTo fan n ks k).getD q wk0).runs = (ks.getD q wk0).runs ∧ ((layTo fan n ks k).getD q wk0).read = (ks.getD q wk0).read
  | 0, q => ⟨rfl, rfl⟩
  | k + 1, q => by
    have ih := layTo_runs fan n ks h0 k
    rw [layTo]
    unfold layOne
    split
    · have hq : k % (layTo fan n ks k).length < (layTo fan n ks k).length := Nat.mod_lt _ (by rw [layTo_len]; exact h0)
      rw [getD_set hq]
      split
      · rename_i e
        subst e
        exact ih _
      · exact ih q
    · exact ih q
end Go.Proofs.YtkncboinfcnklaaGreatDoor

namespace Go.Proofs.YtkncboinfcnklaaGreatDoor
open Go.RowKit Go.Deep Go.Shelf Go.Proofs.YtkncboinfcnklaaGreatDoor.Mth

/-! ### what a log has, held against all that was laid down -/
theorem segs_eq (lev : Nat → List (List Ent)) : segs lev = lev 5 ++ (lev 4 ++ (lev 3 ++ (lev 2 ++ (lev 1 ++ lev 0)))) := by
  have : downTo 6 = [⟨5, by omega⟩, ⟨4, by omega⟩, ⟨3, by omega⟩, ⟨2, by omega⟩, ⟨1, by omega⟩, ⟨0, by omega⟩] := by decide
  unfold segs
  rw [this]
  simp only [List.flatMap_cons, List.flatMap_nil, List.append_nil]
def sto (L : Lg) : List Ent := (segs L.lev).flatten ++ L.mem
theorem sto_eq (L : Lg) : sto L = (L.lev 5).flatten ++ ((L.lev 4).flatten ++ ((L.lev 3).flatten ++ ((L.lev 2).flatten ++ ((L.lev 1).flatten ++ ((L.lev 0).flatten ++ L.mem))))) := by
  unfold sto
  rw [segs_eq]
  simp [List.flatten_append]
theorem lev_segs {lev : Nat → List (List Ent)} {i : Nat} (hi : i < 6) {es : List Ent} (h : es ∈ lev i) : es ∈ segs lev := by
  rw [segs_eq]
  simp only [List.mem_append]
  rcases (show i = 0 ∨ i = 1 ∨ i = 2 ∨ i = 3 ∨ i = 4 ∨ i = 5 by omega) with rfl | rfl | rfl | rfl | rfl | rfl <;> simp [h]
theorem segs_lev {lev : Nat → List (List Ent)} {es : List Ent} (h : es ∈ segs lev) : ∃ i, i < 6 ∧ es ∈ lev i := by
  rw [segs_eq] at h
  simp only [List.mem_append] at h
  rcases h with h | h | h | h | h | h
  · exact ⟨5, by omega, h⟩
  · exact ⟨4, by omega, h⟩
  · exact ⟨3, by omega, h⟩
  · exact ⟨2, by omega, h⟩
  · exact ⟨1, by omega, h⟩
  · exact ⟨0, by omega, h⟩
structure AllOk (all : List Ent) (clock : Nat) : Prop where
  num : ∀ j, j < all.length → (all.getD j e0).seq = (j : Int)
  tms : all.Pairwise (fun a b => a.time ≤ b.time)
  bd : ∀ e ∈ all, 0 ≤ e.time ∧ e.time ≤ (clock : Int) ∧ e.text.size ≤ 60
theorem AllOk.sqs {all : List Ent} {c : Nat} (h : AllOk all c) : all.Pairwise (fun a b => a.seq < b.seq) := by
  rw [List.pairwise_iff_getElem]
  intro i j hi hj hij
  have h1 := h.num i hi
  have h2 := h.num j hj
  rw [← List.getElem_eq_getD (h := hi)] at h1
  rw [← List.getElem_eq_getD (h := hj)] at h2
  omega
theorem AllOk.later {all : List Ent} {c n : Nat} (h : AllOk all c) : AllOk all (c + n) := ⟨h.num, h.tms, fun e he => by have := h.bd e he; omega⟩
theorem AllOk.snoc {all : List Ent} {c : Nat} (h : AllOk all c) {s : ByteArray} (hs : s.size ≤ 60) : AllOk (all ++ [⟨(all.length : Int), (c : Int), s⟩]) c := by
  refine ⟨fun j hj => ?_, ?_, fun e he => ?_⟩
  · by_cases h1 : j < all.length
    · have := h.num j h1
      rw [← List.getElem_eq_getD (h := h1)] at this
      rw [← List.getElem_eq_getD (h := hj), List.getElem_append_left h1]
      exact this
    · have e : j = all.length := by simp at hj; omega
      subst e
      simp [List.getD]
  · rw [List.pairwise_append]
    refine ⟨h.tms, List.pairwise_singleton _ _, fun a ha b hb => ?_⟩
    rw [List.mem_singleton.1 hb]
    exact (h.bd a ha).2.1
  · rcases List.mem_append.1 he with h1 | h1
    · exact h.bd e h1
    · rw [List.mem_singleton.1 h1]
      exact ⟨by simp, by simp, hs⟩

structure Inv (L : Lg) (all : List Ent) : Prop where
  cfg : (1 ≤ L.memory ∧ L.memory ≤ 8) ∧ (2 ≤ L.fan ∧ L.fan ≤ 4) ∧ L.back ≤ 4 ∧ (1 ≤ L.keep ∧ L.keep ≤ 1000000) ∧ (1 ≤ L.batch ∧ L.batch ≤ 8) ∧ 0 < L.wks.length
  clk : L.clock ≤ 1000000000000
  ok : AllOk all L.clock
  cnt : L.count = all.length
  sub : (sto L).Sublist all
  gone : ∀ e ∈ all, ¬ e ∈ sto L → e.time < (L.clock : Int) - (L.keep : Int) ∧ ∀ x p, L.tls x = some p → e.seq < (p.2 : Int)
  ne : ∀ es ∈ segs L.lev, es ≠ []
  ml : L.mem.length ≤ L.memory
  one : ∀ i, ct L.wks i ≤ 1
  big : ∀ i, 0 < ct L.wks i → i ≤ 4 ∧ L.fan ≤ (L.lev i).length
  due : ∀ i, i ≤ 4 → L.fan ≤ (L.lev i).length → 0 < ct L.wks i
  rd : ∀ q, q < L.wks.length → (∀ i, (L.wks.getD q wk0).runs = some i → (L.wks.getD q wk0).read < L.fan) ∧ ((L.wks.getD q wk0).runs = none → (L.wks.getD q wk0).read = 0)
  plc : ∀ x p, L.tls x = some p → p.2 ≤ L.count

/-! what follows -/
theorem sub_filter {α : Type} {Q : α → Bool} {R : α → α → Prop} (hR : ∀ a, ¬ R a a) : ∀ {l m : List α}, l.Sublist m → m.Pairwise R → (∀ e ∈ m, Q e = true → e ∈ l) → l.filter Q = m.filter Q
  | _, _, .slnil, _, _ => rfl
  | l, _, .cons (l₂ := m) a h, hp, hq => by
    have hp' := List.pairwise_cons.1 hp
    have hno : Q a = false := by
      cases hQ : Q a
      · rfl
      · have := h.subset (hq a (by simp) hQ)
        exact absurd (hp'.1 a this) (hR a)
    rw [List.filter_cons, hno]
    exact sub_filter hR h hp'.2 (fun e he hQ => hq e (by simp [he]) hQ)
  | _, _, .cons_cons (l₁ := l) (l₂ := m) a h, hp, hq => by
    have hp' := List.pairwise_cons.1 hp
    rw [List.filter_cons, List.filter_cons]
    rw [sub_filter hR h hp'.2 (fun e he hQ => by
      rcases List.mem_cons.1 (hq e (by simp [he]) hQ) with e1 | e1
      · subst e1; exact absurd (hp'.1 e he) (hR e)
      · exact e1)]
theorem Inv.filter {L : Lg} {all : List Ent} (h : Inv L all) (Q : Ent → Bool) (hQ : ∀ e ∈ all, Q e = true → e ∈ sto L) : (sto L).filter Q = all.filter Q :=
  sub_filter (R := fun a b : Ent => a.seq < b.seq) (fun a => by omega) h.sub h.ok.sqs hQ
theorem pw_getD {R : Ent → Ent → Prop} (hr : ∀ a, R a a) {l : List Ent} (h : l.Pairwise R) : ∀ i j, i ≤ j → j < l.length → R (l.getD i e0) (l.getD j e0) := by
  intro i j hij hj
  rw [← List.getElem_eq_getD (h := by omega), ← List.getElem_eq_getD (h := hj)]
  by_cases e : i = j
  · subst e; exact hr _
  · exact List.pairwise_iff_getElem.1 h i j (by omega) hj (by omega)
theorem Inv.segSub {L : Lg} {all : List Ent} (h : Inv L all) {es : List Ent} (he : es ∈ segs L.lev) : es.Sublist all :=
  ((List.sublist_flatten_of_mem he).trans (List.sublist_append_left _ _)).trans h.sub
theorem Inv.memSub {L : Lg} {all : List Ent} (h : Inv L all) : L.mem.Sublist all := (List.sublist_append_right _ _).trans h.sub
theorem Inv.tmsOf {L : Lg} {all : List Ent} (h : Inv L all) {es : List Ent} (he : es.Sublist all) : Tms es := pw_getD (R := fun a b => a.time ≤ b.time) (fun _ => by omega) (h.ok.tms.sublist he)
theorem flat_ge : ∀ {l : List (List Ent)}, (∀ es ∈ l, es ≠ []) → l.length ≤ l.flatten.length
  | [], _ => by simp
  | es :: l, h => by
    have := flat_ge (l := l) (fun x hx => h x (by simp [hx]))
    have h1 : 0 < es.length := List.length_pos_iff.2 (h es (by simp))
    rw [List.length_cons, List.flatten_cons, List.length_append]
    omega
theorem Inv.stoLen {L : Lg} {all : List Ent} (h : Inv L all) : (segs L.lev).flatten.length + L.mem.length ≤ all.length := by
  have := h.sub.length_le
  unfold sto at this
  rw [List.length_append] at this
  exact this
theorem Inv.levs {L : Lg} {all : List Ent} (h : Inv L all) : (L.lev 0).length + (L.lev 1).length + (L.lev 2).length + (L.lev 3).length + (L.lev 4).length + (L.lev 5).length ≤ all.length := by
  have h1 := flat_ge h.ne
  have h2 := h.stoLen
  rw [segs_eq] at h1
  rw [segs_eq] at h2
  simp only [List.length_append] at h1
  omega
theorem Inv.lev {L : Lg} {all : List Ent} (h : Inv L all) (i : Nat) (hi : i < 6) : (L.lev i).length ≤ all.length := by
  have := h.levs
  rcases (show i = 0 ∨ i = 1 ∨ i = 2 ∨ i = 3 ∨ i = 4 ∨ i = 5 by omega) with rfl | rfl | rfl | rfl | rfl | rfl <;> omega
/-- The new tasks' count. -/
theorem due_after {fan : Nat} {n : Nat → Nat} {ks : List Wk} (h0 : 0 < ks.length) (h1 : ∀ i, ct ks i ≤ 1) (h2 : ∀ i, 0 < ct ks i → i ≤ 4 ∧ fan ≤ n i) :
    (∀ i, ct (layTo fan n ks 5) i ≤ 1) ∧ (∀ i, 0 < ct (layTo fan n ks 5) i → i ≤ 4 ∧ fan ≤ n i) ∧ (∀ i, i ≤ 4 → fan ≤ n i → 0 < ct (layTo fan n ks 5) i) := by
  refine ⟨fun i => ?_, fun i hi => ?_, fun i hi hf => ?_⟩
  · rw [layTo_ct fan n ks h0]
    have := h1 i
    split <;> omega
  · rw [layTo_ct fan n ks h0] at hi
    by_cases h : 0 < ct ks i
    · exact h2 i h
    · split at hi
      · rename_i q
        exact ⟨by omega, q.2.1⟩
      · omega
  · rw [layTo_ct fan n ks h0]
    by_cases h : ct ks i = 0
    · rw [if_pos ⟨by omega, hf, h⟩]; omega
    · omega
/-- An entry is laid down. -/
theorem Inv.app {L : Lg} {all : List Ent} (h : Inv L all) {s : ByteArray} (hs : s.size ≤ 60) : Inv (L.app s) (all ++ [⟨(all.length : Int), (L.clock : Int), s⟩]) := by
  have hsto : sto (L.app s) = sto L ++ [⟨(L.count : Int), (L.clock : Int), s⟩] := by
    rw [sto_eq, sto_eq]
    unfold Lg.app Lg.more
    by_cases hf : L.memory ≤ L.mem.length
    · rw [if_pos hf]
      simp [Lg.roll, List.flatten_append]
    · rw [if_neg hf]
      simp
  have hcf : (L.app s).memory = L.memory ∧ (L.app s).fan = L.fan ∧ (L.app s).back = L.back ∧ (L.app s).keep = L.keep ∧ (L.app s).batch = L.batch ∧ (L.app s).clock = L.clock ∧ (L.app s).tls = L.tls ∧ (L.app s).count = L.count + 1 ∧ (L.app s).wks.length = L.wks.length := by
    unfold Lg.app Lg.more
    by_cases hf : L.memory ≤ L.mem.length
    · rw [if_pos hf]
      refine ⟨rfl, rfl, rfl, rfl, rfl, rfl, rfl, rfl, ?_⟩
      exact layTo_len _ _ _ _
    · rw [if_neg hf]
      exact ⟨rfl, rfl, rfl, rfl, rfl, rfl, rfl, rfl, rfl⟩
  obtain ⟨c1, c2, c3, c4, c5, c6, c7, c8, c9⟩ := hcf
  refine ⟨by rw [c1, c2, c3, c4, c5, c9]; exact h.cfg, by rw [c6]; exact h.clk, by rw [c6]; exact h.ok.snoc hs, by rw [c8, h.cnt]; simp, ?_, ?_, ?_, ?_, ?_, ?_, ?_, ?_, ?_⟩
  · rw [hsto, h.cnt]
    exact h.sub.append (List.Sublist.refl _)
  · intro e he hn
    rw [c4, c6, c7]
    rw [hsto, List.mem_append, h.cnt] at hn
    rcases List.mem_append.1 he with h1 | h1
    · exact h.gone e h1 (fun q => hn (Or.inl q))
    · exact absurd (Or.inr h1) hn
  · intro es he
    obtain ⟨i, hi, he⟩ := segs_lev he
    unfold Lg.app Lg.more at he
    by_cases hf : L.memory ≤ L.mem.length
    · rw [if_pos hf] at he
      simp only [Lg.roll] at he
      split at he
      · rcases List.mem_append.1 he with h1 | h1
        · exact h.ne es (lev_segs hi h1)
        · rw [List.mem_singleton.1 h1]
          intro q
          have := h.cfg.1.1
          rw [q] at hf
          simp at hf
          omega
      · exact h.ne es (lev_segs hi he)
    · rw [if_neg hf] at he
      exact h.ne es (lev_segs hi he)
  · rw [c1]
    unfold Lg.app Lg.more
    have := h.cfg.1.1
    by_cases hf : L.memory ≤ L.mem.length
    · rw [if_pos hf]
      simp [Lg.roll]
      omega
    · rw [if_neg hf]
      simp
      omega
  all_goals
    unfold Lg.app Lg.more
    by_cases hf : L.memory ≤ L.mem.length
    · rw [if_pos hf]
      have hd := due_after (fan := L.fan) (n := fun i => (if i = 0 then L.lev i ++ [L.mem] else L.lev i).length) h.cfg.2.2.2.2.2 h.one (fun i hi => ⟨(h.big i hi).1, by
        have := (h.big i hi).2
        by_cases q : i = 0
        · rw [if_pos q, List.length_append]; omega
        · rw [if_neg q]; exact this⟩)
      first
      | exact hd.1
      | exact hd.2.1
      | exact hd.2.2
      | (intro q hq
         have hr := layTo_runs L.fan (fun i => (if i = 0 then L.lev i ++ [L.mem] else L.lev i).length) L.wks h.cfg.2.2.2.2.2 5 q
         simp only [Lg.roll] at hq ⊢
         rw [layTo_len] at hq
         rw [hr.1, hr.2]
         exact h.rd q hq)
      | (intro x p hp
         exact Nat.le_succ_of_le (h.plc x p hp))
    · rw [if_neg hf]
      first
      | exact h.one
      | exact h.big
      | exact h.due
      | exact h.rd
      | (intro x p hp
         exact Nat.le_succ_of_le (h.plc x p hp))
/-- The time goes on. -/
theorem Inv.tick {L : Lg} {all : List Ent} (h : Inv L all) {n : Nat} (hn : L.clock + n ≤ 1000000000000) : Inv { L with clock := L.clock + n } all :=
  ⟨h.cfg, hn, h.ok.later, h.cnt, h.sub, fun e he hq => ⟨by have := (h.gone e he hq).1; simp only; omega, (h.gone e he hq).2⟩, h.ne, h.ml, h.one, h.big, h.due, h.rd, h.plc⟩
end Go.Proofs.YtkncboinfcnklaaGreatDoor

namespace Go.Proofs.YtkncboinfcnklaaGreatDoor
open Go.RowKit Go.Deep Go.Shelf Go.Proofs.YtkncboinfcnklaaGreatDoor.Mth

/-! ### what a tail is told -/
/-- What a Poll tells. -/
def tld (f : Ent → Bool) (all : List Ent) (p batch : Nat) : List Ent := ((all.drop p).filter f).take batch
end Go.Proofs.YtkncboinfcnklaaGreatDoor

namespace Go.Proofs.YtkncboinfcnklaaGreatDoor
open Go.RowKit Go.Deep Go.Proofs.YtkncboinfcnklaaGreatDoor.Mth

theorem curF_append0 {e : TypeId} {w0 w w2 : World} {v v2 : Value} {l : List Fl} {f : Fl} (h : CurF e w0 w v l) (h2 : w2.ownsRow w0.heap.size e 3 v2 (l.length + 1) (l.flatMap fC ++ fC f)) (hg : w.grownBy w2 v.ownBlock) : CurF e w0 w2 v2 (l ++ [f]) := by
  refine ⟨?_, by simpa [List.flatMap_append] using h2⟩
  refine h.1.grown hg h.1.size ?_
  intro k hk
  exact (h.2.lt k hk).1

theorem cellA {w : World} {a : Addr} {v : Value} {o : Obj} (h : w.cell? a = some v) : (w.alloc o).cell? a = some v := ((below_alloc w o).cell (p := a) (World.block_lt_of_cell? _ _ h)).trans h

theorem add_lt (w : World) (o : Obj) (j : Nat) : ((⟨w.heap.size, 0, none⟩ : Addr).add j).block < (w.drew.alloc o).heap.size := by
  rw [show (⟨w.heap.size, 0, none⟩ : Addr).add j = ⟨w.heap.size, j, none⟩ from by unfold Addr.add; split <;> simp_all]
  simp

theorem kept_nb {w3 w4 : World} {B b nb : Nat} {fs fs' : List Fl} {l1 : Int} {fv v4 : Value} {C : Array Value} (hc : CurF 109 w3.drew w4 v4 fs') (hlt : nb < w3.heap.size) (hk : w3.heap[nb]? = some (Obj.cells C 109 (0, 0))) (hs : St 100 109 w3 B b fs l1 fv) : (w4.setCell ⟨b, 0, none⟩ v4).heap[nb]? = some (Obj.cells C 109 (0, 0)) := by
  have hne : nb ≠ b := by
    intro q
    subst q
    have := hs.blk
    rw [hk] at this
    injection this with this
    injection this with _ this _
    exact absurd this (by decide)
  rw [set_other hne, (hc.pre (drewB w3)).1.block nb hlt]
  exact hk
theorem kept_d {w3 w4 : World} {B b d : Nat} {fs fs' : List Fl} {l1 : Int} {fv v4 : Value} (hc : CurF 109 w3.drew w4 v4 fs') (hp : Ptr 102 w3 d b) (hs : St 100 109 w3 B b fs l1 fv) : Ptr 102 (w4.setCell ⟨b, 0, none⟩ v4) d b := by
  have hne : d ≠ b := by
    intro q
    subst q
    have := hs.blk
    rw [hp] at this
    injection this with this
    injection this with _ this _
    exact absurd this (by decide)
  show _ = _
  rw [set_other hne]
  exact hp.below (hc.pre (drewB w3)).1

set_option maxRecDepth 100000 in
set_option maxHeartbeats 8000000 in
theorem apiRename_yes {w : World} {B b d : Nat} {fs : List Fl} {left : Int} {fv : Value} (h : St 100 109 w B b fs left fv) (hp : Ptr 102 w d b) (hB : B ≤ w.heap.size) (h1 : -1 ≤ left) (h2 : left < 9223372036854775808) (q : left ≠ 0) (hl : fs.length ≤ 4194304) (x y : ByteArray) (i : Nat) (hr : At fs x (i : Int)) (hi : i < fs.length) (hxy : x ≠ y) :
    Calls Tryz.prog 35 #[.pointer (some ⟨d, 0, none⟩), .string x, .string y] w fun e w' => e = .returned (.bool true) ∧ ∃ fv', Stp 100 109 B b w w' fv (wo y (wo x fs) ++ [⟨y, (fs.getD i fl0).data, (fs.getD i fl0).safe⟩]) (decL left) fv' := by
  obtain ⟨i0, hi0, hz0, hz1, hz2⟩ := info_parts Tryz.info109
  have CS := hide (apiStep_any h h1 h2)
  rw [decide_eq_true q] at CS
  obtain ⟨p0, _⟩ := cell_of (j := 0) (u := .pointer (some ⟨b, 0, none⟩)) hp rfl
  have HR := hide hr
  have HP := hide hp
  have HS := hide h
  have hxyb := eqS_false (fun q => hxy q.symm : y ≠ x)
  have hxyc := eqS_false hxy
  generalize decL left = l1 at *
  clear h h1 h2 q hr hp
  go_enter Tryz.func35, Tryz.ntmps35
  go_wp2_with fail
  refine CS.out.mono ?_
  rintro e w1 ⟨rfl, hs⟩
  have HT := hide hs
  have HP1 := hide (HP.out.keep HS.out hs.tch (by decide) (by decide))
  have CF := hide (find_any hs.st x)
  obtain ⟨p1, _⟩ := cell_of (j := 0) (u := .pointer (some ⟨b, 0, none⟩)) HP1.out rfl
  clear hs CS p0 HP HS
  go_wp2_with fail
  refine CF.out.mono ?_
  rintro e w2 ⟨r', rfl, hr, rfl⟩
  have hrr := at_one HR.out hr
  subst hrr
  clear CF hr HR
  obtain ⟨a, c, rfl, hc, hm⟩ := own_slice HT.out.st.own
  unfold maxLen at hm
  obtain ⟨c0, f0⟩ := cell_of (j := 0) (u := .slice a fs.length c) HT.out.st.blk rfl
  have hown := HT.out.st.own
  obtain ⟨g, rfl⟩ := own_some hown (by omega)
  obtain ⟨e2, e3, e4⟩ := own_fl (k := i) hown rfl hi
  generalize (fs.getD i fl0).name = nm at *
  generalize hdt : (fs.getD i fl0).data = dt at *
  generalize hsf : (fs.getD i fl0).safe = sf at *
  have HDT := hide hdt
  have HSF := hide hsf
  clear hdt hsf
  have HBK := hide (new_blk w2 #[.string y, .string dt, .int .i64 (sf : Int)] 109)
  have HB3 := hide (below_alloc w2 (Obj.cells #[.string y, .string dt, .int .i64 (sf : Int)] 109))
  have hlt3 : w2.heap.size < (w2.alloc (Obj.cells #[.string y, .string dt, .int .i64 (sf : Int)] 109)).heap.size := by simp
  have hsz2 := HT.out.tch.size
  clear hown
  go_wp2_with fail
  have HT3 := hide (HT.out.below HB3.out)
  have HP3 := hide (HP1.out.below HB3.out)
  have hnb : w.heap.size ≤ w2.heap.size := hsz2
  generalize w2.alloc (Obj.cells #[.string y, .string dt, .int .i64 (sf : Int)] 109) = w3 at *
  generalize w2.heap.size = nb at *
  have CW := hide (apiWithout_any (HT3.out.st.below (drewB w3)) x hl)
  obtain ⟨p3, _⟩ := cell_of (j := 0) (u := .pointer (some ⟨b, 0, none⟩)) HP3.out rfl
  clear p1 c0 f0 e2 e3 e4 HT HP1 HB3
  obtain ⟨FV, hFV⟩ : ∃ FV, FV = (Value.slice (some ⟨g, 0, none⟩) fs.length c) := ⟨_, rfl⟩
  rw [← hFV] at HT3
  have HFV := hide hFV
  clear hFV
  go_cut [] from 40 (fun wx => ∃ v2, Stp 100 109 B b w wx FV (wo x fs) l1 v2 ∧ Ptr 102 wx d b ∧ wx.heap[nb]? = some (Obj.cells #[.string y, .string dt, .int .i64 (sf : Int)] 109 (0, 0)))
  case first =>
    go_region_with (go_at_call 80; refine CW.out.mono ?_; rintro e w4 ⟨v4, rfl, hc4⟩; obtain ⟨a4, c4, rfl, _, _⟩ := own_slice hc4.2; obtain ⟨ht4, kb, kf, kd⟩ := freshed HT3.out HP3.out hB hc4; have HT4 := hide ht4; have HK4 : Hid ((w4.setCell ⟨b, 0, none⟩ (.slice a4 (wo x fs).length c4)).heap[nb]? = some (Obj.cells #[.string y, .string dt, .int .i64 (sf : Int)] 109 (0, 0))) := kept_nb hc4 hlt3 HBK.out HT3.out.st; have HP4 : Hid (Ptr 102 (w4.setCell ⟨b, 0, none⟩ (.slice a4 (wo x fs).length c4)) d b) := kept_d hc4 HP3.out HT3.out.st; clear ht4 hc4)
    all_goals (go_wp2_with fail; go_meet; exact ⟨_, HT4.out, HP4.out, HK4.out⟩)
  case rest =>
    obtain ⟨v2, hs2, hp2, hk2⟩ := hcut
    have HT5 := hide hs2
    have HP5 := hide hp2
    have HK5 := hide hk2
    have hsz5 := hs2.tch.size
    have CW2 := hide (fun W (hW : Below wc.heap.size wc W) => apiWithout_any (hs2.st.below hW) y (Nat.le_trans (wo_len _ _) hl))
    obtain ⟨p5, _⟩ := cell_of (j := 0) (u := .pointer (some ⟨b, 0, none⟩)) hp2 rfl
    obtain ⟨m0, _⟩ := cell_of (j := 0) (u := .string y) hk2 rfl
    obtain ⟨m1, _⟩ := cell_of (j := 1) (u := .string dt) hk2 rfl
    obtain ⟨m2, _⟩ := cell_of (j := 2) (u := .int .i64 (sf : Int)) hk2 rfl
    have HNE : Hid (nb ≠ b) := by
      intro q
      subst q
      have := HT5.out.st.blk
      rw [HK5.out] at this
      injection this with this
      injection this with _ this _
      exact absurd this (by decide)
    have HDE : Hid (d ≠ b) := by
      intro q
      subst q
      have := HT5.out.st.blk
      rw [HP5.out] at this
      injection this with this
      injection this with _ this _
      exact absurd this (by decide)
    have hml : (wo y (wo x fs)).length ≤ 4194304 := Nat.le_trans (wo_len _ _) (Nat.le_trans (wo_len _ _) hl)
    clear hs2 hp2 hk2 CW HT3 HP3 HBK p3 hlt3
    generalize hml2 : wo y (wo x fs) = L at *
    have HL := hide hml2
    clear hml2
    go_wp2_with fail
    go_region_held3 (fun w' => w'.cell? ⟨d, 0, none⟩ = some (.pointer (some ⟨b, 0, none⟩)) ∧ w'.cell? ⟨nb, 0, none⟩ = some (.string y) ∧ w'.cell? ⟨nb, 1, none⟩ = some (.string dt) ∧ w'.cell? ⟨nb, 2, none⟩ = some (.int .i64 (sf : Int))) (first | exact ⟨p5, m0, m1, m2⟩ | exact ⟨cellA p5, cellA m0, cellA m1, cellA m2⟩ | exact ⟨n0, n1, n2, n3⟩ | exact ⟨cellA n0, cellA n1, cellA n2, cellA n3⟩ | exact ⟨o0, o1, o2, o3⟩ | exact ⟨r0, r1, r2, r3⟩)
      (first
        | (go_at_call 80; refine (CW2.out _ (drewB wc)).mono ?_; rintro e w6 ⟨v6, rfl, hc6⟩; have hc7 := hc6.pre (drewB wc); have HC7 := hide hc7; obtain ⟨n0, _⟩ := cell_of (j := 0) (u := .pointer (some ⟨b, 0, none⟩)) (HP5.out.below hc7.1) rfl; have k7 := (hc7.1.block nb (Array.getElem?_eq_some_iff.1 HK5.out).1).trans HK5.out; obtain ⟨n1, _⟩ := cell_of (j := 0) (u := .string y) k7 rfl; obtain ⟨n2, _⟩ := cell_of (j := 1) (u := .string dt) k7 rfl; obtain ⟨n3, _⟩ := cell_of (j := 2) (u := .int .i64 (sf : Int)) k7 rfl; clear hc6 hc7 k7)
        | (go_at_call 80; refine (CW2.out _ ((drewB wc).trans ((below_alloc wc.drew (Obj.cells #[.string y, .string dt, .int .i64 (sf : Int)] 109)).mono (Nat.le_refl _)))).mono ?_; rintro e w6 ⟨v6, rfl, hc6⟩; have hc7 := hc6.pre ((drewB wc).trans ((below_alloc wc.drew (Obj.cells #[.string y, .string dt, .int .i64 (sf : Int)] 109)).mono (Nat.le_refl _))); have HC7 := hide hc7; obtain ⟨n0, _⟩ := cell_of (j := 0) (u := .pointer (some ⟨b, 0, none⟩)) (HP5.out.below hc7.1) rfl; have k7 := (hc7.1.block nb (Array.getElem?_eq_some_iff.1 HK5.out).1).trans HK5.out; obtain ⟨n1, _⟩ := cell_of (j := 0) (u := .string y) k7 rfl; obtain ⟨n2, _⟩ := cell_of (j := 1) (u := .string dt) k7 rfl; obtain ⟨n3, _⟩ := cell_of (j := 2) (u := .int .i64 (sf : Int)) k7 rfl; have HNW := hide (fun j u hj => ((hc6.1.cell (p := (⟨wc.heap.size, 0, none⟩ : Addr).add j) (add_lt wc _ j)).trans (cells_new wc.drew #[.string y, .string dt, .int .i64 (sf : Int)] 109 _ rfl j u hj))); clear hc6 hc7 k7)
        | (refine step_own _ rfl _ _ 98 rfl wc.heap.size 109 i0 (.agg #[.string ⟨#[]⟩, .string ⟨#[]⟩, .int .i64 0]) 3 40 Tryz.underlying98 hi0 hz0 hz1 hz2 rfl (by decide) _ _ _ rfl (HC7.out.2.alloc _) ⟨w6.heap.size, 0, none⟩ 1 1 [.string y, .string dt, .int .i64 (sf : Int)] rfl rfl (cells_new _ _ _ _ rfl) (by intro u hu; simp at hu; rcases hu with rfl | rfl | rfl <;> rfl) (by unfold maxLen; omega) (by omega) (by have := HC7.out.1.size; simp; omega) ?_; intro v8 w8 hown8 hgrow8; obtain ⟨a8, c8, rfl, _, _⟩ := own_slice hown8; have HC8 := hide (curF_append (f := ⟨y, dt, sf⟩) HC7.out hown8 hgrow8); have HT8 := hide (HT5.out.trans (HT5.out.st.setFresh (by decide) (by omega) HC8.out)); obtain ⟨kb8, kf8⟩ := cell_of (j := 0) (u := v2) (HT5.out.st.below HC8.out.1).blk rfl; obtain ⟨o0, _⟩ := cell_of (j := 0) (u := .pointer (some ⟨b, 0, none⟩)) (HP5.out.below HC8.out.1) rfl; have k8 := (HC8.out.1.block nb (Array.getElem?_eq_some_iff.1 HK5.out).1).trans HK5.out; obtain ⟨o1, _⟩ := cell_of (j := 0) (u := .string y) k8 rfl; obtain ⟨o2, _⟩ := cell_of (j := 1) (u := .string dt) k8 rfl; obtain ⟨o3, _⟩ := cell_of (j := 2) (u := .int .i64 (sf : Int)) k8 rfl; have k9 := (set_other (w := w8) (nb := b) (o := 0) (u := .slice a8 (L.length + 1) c8) HNE.out).trans k8; obtain ⟨r0, _⟩ := cell_of (j := 0) (u := .pointer (some ⟨b, 0, none⟩)) ((set_other (w := w8) (nb := b) (o := 0) (u := .slice a8 (L.length + 1) c8) HDE.out).trans (HP5.out.below HC8.out.1)) rfl; obtain ⟨r1, _⟩ := cell_of (j := 0) (u := .string y) k9 rfl; obtain ⟨r2, _⟩ := cell_of (j := 1) (u := .string dt) k9 rfl; obtain ⟨r3, _⟩ := cell_of (j := 2) (u := .int .i64 (sf : Int)) k9 rfl; clear hown8 hgrow8 k8 k9)
        | (refine step_own _ rfl _ _ 98 rfl wc.heap.size 109 i0 (.agg #[.string ⟨#[]⟩, .string ⟨#[]⟩, .int .i64 0]) 3 40 Tryz.underlying98 hi0 hz0 hz1 hz2 rfl (by decide) _ _ _ rfl HC7.out.2 ⟨wc.heap.size, 0, none⟩ 1 1 [.string y, .string dt, .int .i64 (sf : Int)] rfl rfl HNW.out (by intro u hu; simp at hu; rcases hu with rfl | rfl | rfl <;> rfl) (by unfold maxLen; omega) (by omega) (by have := HC7.out.1.size; simp; omega) ?_; intro v8 w8 hown8 hgrow8; obtain ⟨a8, c8, rfl, _, _⟩ := own_slice hown8; have HC8 := hide (curF_append0 (f := ⟨y, dt, sf⟩) HC7.out hown8 hgrow8); have HT8 := hide (HT5.out.trans (HT5.out.st.setFresh (by decide) (by omega) HC8.out)); obtain ⟨kb8, kf8⟩ := cell_of (j := 0) (u := v2) (HT5.out.st.below HC8.out.1).blk rfl; obtain ⟨o0, _⟩ := cell_of (j := 0) (u := .pointer (some ⟨b, 0, none⟩)) (HP5.out.below HC8.out.1) rfl; have k8 := (HC8.out.1.block nb (Array.getElem?_eq_some_iff.1 HK5.out).1).trans HK5.out; obtain ⟨o1, _⟩ := cell_of (j := 0) (u := .string y) k8 rfl; obtain ⟨o2, _⟩ := cell_of (j := 1) (u := .string dt) k8 rfl; obtain ⟨o3, _⟩ := cell_of (j := 2) (u := .int .i64 (sf : Int)) k8 rfl; have k9 := (set_other (w := w8) (nb := b) (o := 0) (u := .slice a8 (L.length + 1) c8) HNE.out).trans k8; obtain ⟨r0, _⟩ := cell_of (j := 0) (u := .pointer (some ⟨b, 0, none⟩)) ((set_other (w := w8) (nb := b) (o := 0) (u := .slice a8 (L.length + 1) c8) HDE.out).trans (HP5.out.below HC8.out.1)) rfl; obtain ⟨r1, _⟩ := cell_of (j := 0) (u := .string y) k9 rfl; obtain ⟨r2, _⟩ := cell_of (j := 1) (u := .string dt) k9 rfl; obtain ⟨r3, _⟩ := cell_of (j := 2) (u := .int .i64 (sf : Int)) k9 rfl; clear hown8 hgrow8 k8 k9))
    all_goals (go_wp2; go_ret; exact ⟨rfl, _, by rw [HL.out, HDT.out, HSF.out, ← HFV.out]; exact HT8.out⟩)
end Go.Proofs.YtkncboinfcnklaaGreatDoor
