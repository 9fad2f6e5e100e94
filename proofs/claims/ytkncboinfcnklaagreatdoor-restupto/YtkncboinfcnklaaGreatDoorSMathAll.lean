import Derived.Test.YtkncboinfcnklaaGreatDoorPb
import Derived.Test.YtkncboinfcnklaaGreatDoorMath2
namespace Go.Proofs.YtkncboinfcnklaaGreatDoor.Mth
open Go.RowKit

/-! ### the sum, by another formula -/
def wsum : List Int → Int
  | [] => 0
  | x :: l => x * ((l.length : Int) + 1) + wsum l

theorem wsum_snoc (l : List Int) (x : Int) : wsum (l ++ [x]) = wsum l + l.sum + x := by
  induction l with
  | nil => simp [wsum]
  | cons y l ih =>
    simp only [List.cons_append, wsum, ih, List.length_append, List.length_singleton, List.sum_cons]
    rw [show ((l.length + 1 : Nat) : Int) + 1 = ((l.length : Int) + 1) + 1 by omega, Int.mul_add y ((l.length : Int) + 1) 1]
    omega

theorem sm_two (l : List Int) : (sm l).2 = ((l.length : Int) + wsum l) % 65521 := by
  suffices h : ∀ (r : List Int), (sm r.reverse).2 = ((r.reverse.length : Int) + wsum r.reverse) % 65521 by
    have := h l.reverse
    rwa [List.reverse_reverse] at this
  intro r
  induction r with
  | nil => rfl
  | cons x r ih =>
    rw [List.reverse_cons, sm_snoc, wsum_snoc]
    have hb := sm_bd r.reverse
    simp only [smStep]
    rw [ih, hb.2.2, List.length_append, List.length_singleton]
    omega

/-- The document's own way: from the first byte on, each as often as there are bytes from it on. -/
def refC : Int → List Int → Int
  | c, [] => c
  | c, x :: l => refC ((c + x * (((l.length : Int) + 1) % 65521)) % 65521) l

theorem refC_eq : ∀ (l : List Int) (c : Int), 0 ≤ c → c < 65521 → refC c l = (c + wsum l) % 65521
  | [], c, h0, h1 => by simp [refC, wsum]; omega
  | x :: l, c, _, _ => by
    rw [refC, refC_eq l _ (by omega) (by omega), wsum]
    have h : (x * (((l.length : Int) + 1) % 65521)) % 65521 = (x * ((l.length : Int) + 1)) % 65521 := by
      rw [Int.mul_emod, Int.emod_emod_of_dvd _ (Int.dvd_refl _), ← Int.mul_emod]
    omega

theorem refC_sm (l : List Int) : refC ((l.length : Int) % 65521) l = (sm l).2 := by
  rw [refC_eq l _ (by omega) (by omega), sm_two]
  omega
end Go.Proofs.YtkncboinfcnklaaGreatDoor.Mth

namespace Go.Proofs.YtkncboinfcnklaaGreatDoor.Mth
open Go.RowKit Go.Proofs.YtkncboinfcnklaaGreatDoor

/-! ### the index, by what the lists have -/
open Classical in
noncomputable def hasTo (Ls : List (List ByteArray)) (x : ByteArray) : List Int := ((List.range Ls.length).filter (fun i => decide (x ∈ Ls.getD i []))).map (fun i : Nat => (i : Int))
noncomputable def idxBy : List ByteArray → List (List ByteArray) → List Int
  | [], _ => []
  | x :: xs, Ls => ((((x.size : Int) % 256) :: tb x) ++ ((((hasTo Ls x).length : Int) % 256) :: hasTo Ls x)) ++ idxBy xs Ls

theorem idxBy_congr : ∀ (xs : List ByteArray) (Ls Ms : List (List ByteArray)), Ms.length = Ls.length → (∀ i, i < Ls.length → ∀ x ∈ xs, (x ∈ Ms.getD i [] ↔ x ∈ Ls.getD i [])) → idxBy xs Ms = idxBy xs Ls
  | [], _, _, _, _ => rfl
  | x :: xs, Ls, Ms, hl, h => by
    have e : hasTo Ms x = hasTo Ls x := by
      unfold hasTo
      rw [hl]
      congr 1
      apply List.filter_congr
      intro i hi
      have := h i (List.mem_range.1 hi) x (by simp)
      simp only [decide_eq_decide]
      exact this
    simp only [idxBy]
    rw [e, idxBy_congr xs Ls Ms hl (fun i hi y hy => h i hi y (by simp [hy]))]

/-- Words taken off the lists' heads, all words rising: just what the lists have. -/
theorem idxGo_by : ∀ (xs : List ByteArray) (Ls : List (List ByteArray)), xs.Pairwise ltS → (∀ i, i < Ls.length → (Ls.getD i []).Pairwise ltS ∧ ∀ y ∈ Ls.getD i [], y ∈ xs) → idxGo xs Ls = idxBy xs Ls
  | [], _, _, _ => rfl
  | x :: xs, Ls, hx, h => by
    have hx' := List.pairwise_cons.1 hx
    have hd : ∀ i, i < Ls.length → ((Ls.getD i []).head? = some x ↔ x ∈ Ls.getD i []) := by
      intro i hi
      obtain ⟨h1, h2⟩ := h i hi
      generalize Ls.getD i [] = L at *
      cases L with
      | nil => simp
      | cons y L =>
        simp only [List.head?_cons, Option.some.injEq]
        constructor
        · rintro rfl; simp
        · intro hm
          rcases List.mem_cons.1 hm with e | e
          · exact e.symm
          · have q1 := (List.pairwise_cons.1 h1).1 x e
            rcases List.mem_cons.1 (h2 y (by simp)) with e' | e'
            · exact e'
            · exact absurd (List.lt_trans q1 (hx'.1 y e')) (List.lt_irrefl _)
    have e : havTo Ls x Ls.length = hasTo Ls x := by
      unfold havTo hasTo
      congr 1
      apply List.filter_congr
      intro i hi
      unfold hv
      simp only [decide_eq_decide]
      exact hd i (List.mem_range.1 hi)
    have hr : ∀ i, i < Ls.length → ((rstTo Ls x Ls.length).getD i []).Pairwise ltS ∧ ∀ y, y ∈ (rstTo Ls x Ls.length).getD i [] ↔ (y ∈ Ls.getD i [] ∧ y ≠ x) := by
      intro i hi
      rw [rstTo_get hi]
      obtain ⟨h1, h2⟩ := h i hi
      have hdi := hd i hi
      have hvd : (hv Ls x i = true) ↔ (Ls.getD i []).head? = some x := by unfold hv; simp
      generalize Ls.getD i [] = L at *
      by_cases c : L.head? = some x
      · rw [if_pos ⟨hi, hvd.2 c⟩]
        cases L with
        | nil => simp at c
        | cons y L =>
          simp only [List.head?_cons, Option.some.injEq] at c
          subst c
          have hp := List.pairwise_cons.1 h1
          refine ⟨hp.2, fun z => ⟨fun hz => ⟨by simp; exact Or.inr hz, fun e => ?_⟩, fun ⟨hz, hne⟩ => ?_⟩⟩
          · subst e; exact List.lt_irrefl _ (hp.1 _ hz)
          · rcases List.mem_cons.1 hz with e | e
            · exact absurd e hne
            · exact e
      · rw [if_neg (fun q => c (hvd.1 q.2))]
        refine ⟨h1, fun z => ⟨fun hz => ⟨hz, fun e => ?_⟩, fun q => q.1⟩⟩
        subst e
        exact c (hdi.2 hz)
    simp only [idxGo, idxBy]
    rw [e, idxGo_by xs _ hx'.2 (fun i hi => by
      rw [rstTo_len] at hi
      obtain ⟨q1, q2⟩ := hr i hi
      refine ⟨q1, fun y hy => ?_⟩
      obtain ⟨q3, q4⟩ := (q2 y).1 hy
      rcases List.mem_cons.1 ((h i hi).2 y q3) with e | e
      · exact absurd e q4
      · exact e), idxBy_congr xs Ls _ (rstTo_len _ _ _) (fun i hi y hy => by
        rw [(hr i hi).2 y]
        refine ⟨fun q => q.1, fun q => ⟨q, fun e => ?_⟩⟩
        subst e
        exact List.lt_irrefl _ (hx'.1 _ hy))]

theorem idx_by (l : List Ent) : idx l = num (mw l).length 2 ++ idxBy (mw l) (ws l) := by
  unfold idx
  rw [idxGo_by (mw l) (ws l) (mergedS_up _).1]
  intro i hi
  have hi' : i < l.length := by simpa [ws] using hi
  have e : (ws l).getD i [] = wd (l[i].text) := by simp [ws, List.getD, hi']
  rw [e]
  refine ⟨(mergedS_up _).1, fun y hy => ((mergedS_up _).2 y).2 (List.mem_flatten.2 ⟨wd l[i].text, ?_, hy⟩)⟩
  exact List.mem_map.2 ⟨l[i], List.getElem_mem hi', rfl⟩
end Go.Proofs.YtkncboinfcnklaaGreatDoor.Mth

namespace Go.Proofs.YtkncboinfcnklaaGreatDoor.Mth
open Go.RowKit Go.Proofs.YtkncboinfcnklaaGreatDoor

/-! ### words, by the document's way -/
/-- A letter or digit, the great ones as small ones; 0: none. -/
def ltr (c : Int) : Int := if (97 ≤ c ∧ c ≤ 122) ∨ (48 ≤ c ∧ c ≤ 57) then c else if 65 ≤ c ∧ c ≤ 90 then c + 32 else 0

def cut : List UInt8 → List Int → List (List UInt8)
  | cur, [] => if cur.isEmpty then [] else [cur]
  | cur, c :: l => if ltr c = 0 then (if cur.isEmpty then cut [] l else cur :: cut [] l) else cut (cur ++ [UInt8.ofNat (ltr c).toNat]) l

theorem sml_no {c : Int} (h : ltr c = 0) : sml c = 32 := by
  unfold ltr at h
  unfold sml
  split at h
  · omega
  · split at h
    · omega
    · rename_i h1 h2
      rw [if_neg h2, if_neg h1]
theorem sml_yes {c : Int} (h : ltr c ≠ 0) : sml c = ltr c ∧ ((97 ≤ sml c ∧ sml c ≤ 122) ∨ (48 ≤ sml c ∧ sml c ≤ 57)) := by
  unfold ltr at h ⊢
  unfold sml
  by_cases h1 : (97 ≤ c ∧ c ≤ 122) ∨ (48 ≤ c ∧ c ≤ 57)
  · rw [if_pos h1, if_neg (by omega), if_pos h1]
    exact ⟨rfl, h1⟩
  · rw [if_neg h1] at h ⊢
    by_cases h2 : 65 ≤ c ∧ c ≤ 90
    · rw [if_pos h2]
      simp only [if_neg h1, if_pos h2]
      exact ⟨trivial, by omega⟩
    · rw [if_neg h2] at h
      exact absurd rfl h

theorem sp_yes : Lib.isSp 32 = true := by decide
theorem sp_no {n : Nat} (h : (97 ≤ n ∧ n ≤ 122) ∨ (48 ≤ n ∧ n ≤ 57)) : Lib.isSp (UInt8.ofNat n) = false := by
  have hne : ∀ k : Nat, k < 48 → UInt8.ofNat n ≠ UInt8.ofNat k := fun k hk e => by
    have := congrArg UInt8.toNat e
    simp at this
    omega
  unfold Lib.isSp
  simp only [Bool.or_eq_false_iff, beq_eq_false_iff_ne]
  exact ⟨⟨⟨⟨⟨hne 9 (by omega), hne 10 (by omega)⟩, hne 11 (by omega)⟩, hne 12 (by omega)⟩, hne 13 (by omega)⟩, hne 32 (by omega)⟩

theorem cut_fields : ∀ (l : List Int) (cur : List UInt8), cut cur l = Lib.fieldsGo cur (l.map fun c => UInt8.ofNat (sml c).toNat)
  | [], cur => rfl
  | c :: l, cur => by
    rw [List.map_cons, cut, Lib.fieldsGo]
    by_cases h : ltr c = 0
    · have h32 : Lib.isSp (UInt8.ofNat (Int.toNat 32)) = true := by decide
      rw [if_pos h, sml_no h, cut_fields l [], h32]
      rfl
    · obtain ⟨e, hb⟩ := sml_yes h
      rw [if_neg h, if_neg ?_, cut_fields l _, e]
      rw [sp_no (n := (sml c).toNat) (by omega)]
      decide

/-- The words of a text are those that are cut out of it, once each, rising. -/
theorem wd_cut (s : ByteArray) : wd s = mergedS ((cut [] (tb s)).map ofL) := by
  unfold wd low strOfNums Lib.fields
  rw [cut_fields]
  simp only [List.map_map]
  rfl

/-- So whatever rises and has just these is the list of words. -/
theorem wd_of {s : ByteArray} {m : List ByteArray} (hm : m.Pairwise ltS) (h : ∀ x, x ∈ m ↔ x ∈ (cut [] (tb s)).map ofL) : m = wd s := by
  rw [wd_cut]
  exact mergedS_ext hm h
end Go.Proofs.YtkncboinfcnklaaGreatDoor.Mth

namespace Go.Proofs.YtkncboinfcnklaaGreatDoor.Mth
open Go.RowKit Go.Proofs.YtkncboinfcnklaaGreatDoor

/-! ### reading, by the document's way -/
/-- A number of so many bytes, those that are not there as 0. -/
def rnum (b : List Int) : Nat → Int
  | 0 => 0
  | k + 1 => if k < b.length then wrap64 (wrap64 (rnum b k * 256) + b.getD k 0) else wrap64 (rnum b k * 256)

theorem wrap_wrap (p x : Int) : wrap64 (wrap64 p + x) = wrap64 (p + x) := by unfold wrap64; omega

theorem rnum_eq (b : List Int) : ∀ k, k ≤ b.length → rnum b k = rdNum (b.take k)
  | 0, _ => by simp [rnum, rdNum]
  | k + 1, h => by
    rw [rnum, if_pos (by omega), rnum_eq b k (by omega), wrap_wrap, ← rdNum_take (l := b) (k := k) (by omega)]

/-- The entries that may be there; none: one that is cut off. -/
def refRead : Nat → List Int → Option (List Ent)
  | 0, _ => some []
  | n + 1, b =>
    if b = [] then some []
    else if (b.length : Int) < 17 + rnum (b.drop 16) 1 then none
    else (refRead n (b.drop (17 + (rnum (b.drop 16) 1).toNat))).map fun l => ⟨rnum b 8, rnum (b.drop 8) 8, strOfNums ((b.drop 17).take (rnum (b.drop 16) 1).toNat)⟩ :: l

theorem ent_length (e : Ent) : (ent e).length = 17 + e.text.size := by
  unfold ent
  simp only [List.length_append, List.length_cons, num_len, tb_len]
  omega

theorem refRead_ents : ∀ (l : List Ent) (z : List Int), (∀ e ∈ l, isE e = true) → refRead l.length ((l.map ent).flatten ++ z) = some l
  | [], _, _ => rfl
  | e :: l, z, h => by
    have he := h e (by simp)
    have hr := rd_ent he ((l.map ent).flatten ++ z)
    have hsz : e.text.size ≤ 60 := by
      unfold isE at he
      simp only [Bool.and_eq_true, decide_eq_true_iff] at he
      exact he.2
    have ih := refRead_ents l z (fun x hx => h x (by simp [hx]))
    simp only [List.map_cons, List.flatten_cons, List.append_assoc, List.length_cons]
    generalize hZ : (l.map ent).flatten ++ z = Z at *
    have hlen : (ent e ++ Z).length = 17 + e.text.size + Z.length := by rw [List.length_append, ent_length]
    have hne : ent e ++ Z ≠ [] := by intro q; rw [q] at hlen; simp at hlen; omega
    have hN : rdNum (((ent e ++ Z).drop 16).take 1) = e.text.size := by
      have h16 : (ent e ++ Z).drop 16 = (((e.text.size : Int) % 256) :: tb e.text) ++ Z := by
        unfold ent
        rw [← List.append_assoc, List.append_assoc (num e.seq 8 ++ num e.time 8)]
        exact List.drop_left' (by simp [num_len])
      rw [h16, List.cons_append, List.take_succ_cons, List.take_zero, show (e.text.size : Int) % 256 = e.text.size by omega]
      exact rdNum1 _ (by omega) (by omega)
    generalize ent e ++ Z = b at *
    have h1 : rnum (b.drop 16) 1 = rdNum ((b.drop 16).take 1) := rnum_eq _ 1 (by rw [List.length_drop]; omega)
    have h8 : rnum b 8 = rdNum (b.take 8) := rnum_eq _ 8 (by omega)
    have h8' : rnum (b.drop 8) 8 = rdNum ((b.drop 8).take 8) := rnum_eq _ 8 (by rw [List.length_drop]; omega)
    obtain ⟨hr1, hr2⟩ := hr
    unfold rdEnt at hr1
    unfold rdRest at hr2
    rw [refRead, if_neg hne, h1, hN, if_neg (by rw [hlen]; omega), h8, h8', Int.toNat_natCast]
    rw [hN, Int.toNat_natCast] at hr1 hr2
    rw [List.drop_drop] at hr1 hr2
    rw [List.drop_drop] at hr2
    rw [show 17 + e.text.size = 16 + (1 + e.text.size) by omega, hr2, ih, Option.map_some]
    rw [show (17 : Nat) = 16 + 1 by omega, hr1]

/-- What Pack made is read so too. -/
theorem refRead_pk {l : List Ent} (h : Seg l) : refRead (rnum (pk l) 2).toNat ((pk l).drop 2) = some l := by
  have hp : pk l = num l.length 2 ++ ((l.map ent).flatten ++ (idx l ++ num (sumv (body l)) 4)) := by
    unfold pk body hd
    simp only [List.append_assoc]
  have h2 : (pk l).take 2 = num l.length 2 := by rw [hp]; exact List.take_left' (num_len _ _)
  have h3 : (pk l).drop 2 = (l.map ent).flatten ++ (idx l ++ num (sumv (body l)) 4) := by rw [hp]; exact List.drop_left' (num_len _ _)
  rw [rnum_eq _ 2 (by rw [hp, List.length_append, num_len]; omega), h2, h3, rdNum2 _ (by omega) (by have := h.2.1; omega), Int.toNat_natCast]
  exact refRead_ents l _ (seg_ent h)

/-- The document's reading takes just what the program's takes, and reads the same. -/
theorem ref_isPk (s : List Int) (l : List Ent) : (refRead (rnum s 2).toNat (s.drop 2) = some l ∧ Seg l ∧ pk l = s) ↔ (isPk s ∧ rdAll s = l) := by
  constructor
  · rintro ⟨_, hS, rfl⟩
    have := pk_is hS
    exact ⟨this.2, this.1⟩
  · rintro ⟨⟨hS, hp⟩, rfl⟩
    refine ⟨?_, hS, hp⟩
    have := refRead_pk hS
    rwa [hp] at this
end Go.Proofs.YtkncboinfcnklaaGreatDoor.Mth

namespace Go.Proofs.YtkncboinfcnklaaGreatDoor.Mth

/-! ### something put into a rising list, looked for from the beginning -/
section
variable {α : Type} {lt : α → α → Prop} [DecidableRel lt]

def ins (lt : α → α → Prop) [DecidableRel lt] (x : α) : List α → List α
  | [] => [x]
  | y :: l => if lt x y then x :: y :: l else y :: ins lt x l

theorem ins_len (x : α) : ∀ l : List α, (ins lt x l).length = l.length + 1
  | [] => rfl
  | y :: l => by
    unfold ins
    split
    · rfl
    · rw [List.length_cons, ins_len x l, List.length_cons]

theorem ins_mem (x : α) : ∀ (l : List α) (z : α), z ∈ ins lt x l ↔ z = x ∨ z ∈ l
  | [], z => by simp [ins]
  | y :: l, z => by
    unfold ins
    split
    · simp
    · rw [List.mem_cons, ins_mem x l z, List.mem_cons]
      constructor
      · rintro (h | h | h)
        · exact Or.inr (Or.inl h)
        · exact Or.inl h
        · exact Or.inr (Or.inr h)
      · rintro (h | h | h)
        · exact Or.inr (Or.inl h)
        · exact Or.inl h
        · exact Or.inr (Or.inr h)

theorem ins_up (h : SOrd lt) (x : α) : ∀ l : List α, l.Pairwise lt → x ∉ l → (ins lt x l).Pairwise lt
  | [], _, _ => by simp [ins]
  | y :: l, hl, hx => by
    have hp := List.pairwise_cons.1 hl
    unfold ins
    split
    · rename_i c
      refine List.pairwise_cons.2 ⟨fun z hz => ?_, hl⟩
      rcases List.mem_cons.1 hz with e | e
      · rw [e]; exact c
      · exact h.tr _ _ _ c (hp.1 z e)
    · rename_i c
      refine List.pairwise_cons.2 ⟨fun z hz => ?_, ins_up h x l hp.2 (fun q => hx (by simp [q]))⟩
      rcases (ins_mem x l z).1 hz with e | e
      · rw [e]
        rcases h.tri x y with q | q | q
        · exact absurd q c
        · exact absurd (by simp [q] : x ∈ y :: l) hx
        · exact q
      · exact hp.1 z e

/-- The list as it is put together: what stands there, and what comes of the rest. -/
def insTo (lt : α → α → Prop) [DecidableRel lt] (x : α) (done : Bool) (out rest : List α) : List α := out ++ (if done = true then rest else ins lt x rest)

theorem insTo_done (x y : α) (out rest : List α) : insTo lt x true out (y :: rest) = insTo lt x true (out ++ [y]) rest := by simp [insTo]
theorem insTo_here {x y : α} (h : lt x y) (out rest : List α) : insTo lt x false out (y :: rest) = insTo lt x true (out ++ [x] ++ [y]) rest := by simp [insTo, ins, h]
theorem insTo_on {x y : α} (h : ¬ lt x y) (out rest : List α) : insTo lt x false out (y :: rest) = insTo lt x false (out ++ [y]) rest := by simp [insTo, ins, h]
theorem insTo_end (x : α) (out : List α) : insTo lt x true out [] = out ∧ insTo lt x false out [] = out ++ [x] := by simp [insTo, ins]
end
end Go.Proofs.YtkncboinfcnklaaGreatDoor.Mth

