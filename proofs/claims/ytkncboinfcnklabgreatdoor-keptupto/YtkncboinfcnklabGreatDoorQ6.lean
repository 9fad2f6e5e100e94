import Derived.Test.YtkncboinfcnklabGreatDoorQ5
import Derived.Lib.OwnBridge
import Derived.Test.YtkncboinfcnklabGreatDoorQ4
import Derived.Lib.QuietBelow
namespace Go.Proofs.YtkncboinfcnklabGreatDoor.WI
open Go.RowKit Go.Deep Mth

theorem Tryz.info3 : (Tryz.prog.info? 3).map (fun i => (i.zero, i.size, i.bytes)) = some (some (.int .i64 0), 1, 8) := by kernel_rfl

theorem below_append {B : Nat} {w0 w w2 : World} {v : Value} {o : Obj} {e : TypeId} {n : Nat} {xs : List Value} (hb : Below B w0 w) (hB : B ≤ w.heap.size) (hown : w.ownsRow B e 1 v n xs) (hg : (w.alloc o).grownBy w2 v.ownBlock) : Below B w0 w2 := by
  refine (hb.alloc hB o).grown hg (by simp; omega) ?_
  intro k hk
  rcases hown.2 with ⟨h0, _⟩ | ⟨g, cap, cur, hv, hbase, _⟩
  · subst h0; simp [Value.ownBlock] at hk
  · subst hv; simp [Value.ownBlock] at hk; omega

/-- A slice of the call's own that holds these numbers; below B nothing has turned. -/
def Cur (w0 w : World) (v : Value) (l : List Int) : Prop := Below w0.heap.size w0 w ∧ w.ownsRow w0.heap.size 3 1 v l.length (l.map eI)

theorem cur_append {w0 w w2 : World} {v v2 : Value} {o : Obj} {l : List Int} {a : Int} (h : Cur w0 w v l) (h2 : w2.ownsRow w0.heap.size 3 1 v2 (l.length + 1) (l.map eI ++ [.int .i64 a])) (hg : (w.alloc o).grownBy w2 v.ownBlock) : Cur w0 w2 v2 (l ++ [a]) :=
  ⟨below_append h.1 h.1.size h.2 hg, by simpa using h2⟩

theorem cur_drewN {w0 w : World} {v : Value} {l : List Int} {n : Nat} (h : Cur w0 w v l) : Cur w0 (w.drewN n) v l := ⟨⟨h.1.os, h.1.tape, h.1.output, h.1.size, h.1.block⟩, h.2⟩

def BetP (w0 : World) (l : List Int) (e : Ending) (w' : World) : Prop := ∃ v', e = .returned v' ∧ Cur w0 w' v' l

def BetSaid (lo hi : Int) (w0 : World) (T : BT Int) : Prop := ∀ (u : Option Addr) (w : World) (v : Value) (acc : List Int), T.ptr = .pointer u → InT eI w0 T → (lst T).Pairwise (fun a b : Int => a < b) → Cur w0 w v acc → acc.length + (lst T).length ≤ 4194304 →
  Calls Tryz.prog 77 #[.pointer u, v, .int .i64 lo, .int .i64 hi] w (BetP w0 (acc ++ btw (fun a b : Int => a < b) lo hi (lst T)))

set_option maxHeartbeats 400000 in
theorem bet_nil (lo hi : Int) (w0 : World) : BetSaid lo hi w0 .nil := by
  intro u w v acc hu _ _ hcur _
  have hu' : u = none := by
    have : Value.pointer none = .pointer u := hu
    injection this with h
    exact h.symm
  subst hu'
  have HC := hide hcur
  clear hu hcur
  go_enter Tryz.func77, Tryz.ntmps77
  go_wp2
  go_ret
  exact ⟨v, rfl, by simpa [lst, btw] using HC.out⟩

set_option maxRecDepth 100000 in
set_option maxHeartbeats 4000000 in
theorem bet_node (lo hi : Int) (w0 : World) (b : Nat) (a : Int) (l r : BT Int) (ihl : BetSaid lo hi w0 l) (ihr : BetSaid lo hi w0 r) (s1 s2 : Int) (hs1 : ∀ w, Calls Tryz.prog 101 #[.int .i64 a, .int .i64 lo] w fun e w' => e = .returned (.int .i64 s1) ∧ w' = w) (hs2 : ∀ w, Calls Tryz.prog 101 #[.int .i64 a, .int .i64 hi] w fun e w' => e = .returned (.int .i64 s2) ∧ w' = w)
    (u : Option Addr) (w : World) (v : Value) (acc : List Int) (hu : (BT.node b 0 a l r).ptr = .pointer u) (h : InT eI w0 (.node b 0 a l r)) (hup : (lst (.node b 0 a l r)).Pairwise (fun a b : Int => a < b)) (hcur : Cur w0 w v acc) (hb : acc.length + (lst (.node b 0 a l r)).length ≤ 4194304) :
    Calls Tryz.prog 77 #[.pointer u, v, .int .i64 lo, .int .i64 hi] w (BetP w0 (acc ++ ((if 0 < s1 then btw (fun a b : Int => a < b) lo hi (lst l) else []) ++ ((if 0 ≤ s1 ∧ s2 ≤ 0 then [a] else []) ++ (if s2 < 0 then btw (fun a b : Int => a < b) lo hi (lst r) else []))))) := by
  have hu' : u = some ⟨b, 0, none⟩ := by
    have : Value.pointer (some ⟨b, 0, none⟩) = .pointer u := hu
    injection this with h
    exact h.symm
  subst hu'
  have hblt := inT_lt h
  obtain ⟨_, c0, c1, c2, c3, hl, hr⟩ := h
  obtain ⟨ul, hul⟩ := ptr_pointer l
  obtain ⟨ur, hur⟩ := ptr_pointer r
  rw [hul] at c2
  rw [hur] at c3
  have hlen : (lst (.node b 0 a l r)).length = (lst l).length + 1 + (lst r).length := by simp [lst]; omega
  rw [hlen] at hb
  rw [lst] at hup
  have hB := hcur.1
  have k0 : w.cell? ⟨b, 0, none⟩ = some (.int .i64 a) := (hB.cell (p := ⟨b, 0, none⟩) hblt).trans c0
  have k2 : w.cell? ⟨b, 2, none⟩ = some (.pointer ul) := (hB.cell (p := ⟨b, 2, none⟩) hblt).trans c2
  have k3 : w.cell? ⟨b, 3, none⟩ = some (.pointer ur) := (hB.cell (p := ⟨b, 3, none⟩) hblt).trans c3
  have IL : Hid (∀ w v acc, Cur w0 w v acc → acc.length + (lst l).length ≤ 4194304 → Calls Tryz.prog 77 #[.pointer ul, v, .int .i64 lo, .int .i64 hi] w (BetP w0 (acc ++ btw (fun a b : Int => a < b) lo hi (lst l)))) :=
    fun w v acc hc hn => ihl ul w v acc hul hl (List.pairwise_append.1 hup).1 hc hn
  have IR : Hid (∀ w v acc, Cur w0 w v acc → acc.length + (lst r).length ≤ 4194304 → Calls Tryz.prog 77 #[.pointer ur, v, .int .i64 lo, .int .i64 hi] w (BetP w0 (acc ++ btw (fun a b : Int => a < b) lo hi (lst r)))) :=
    fun w v acc hc hn => ihr ur w v acc hur hr (List.pairwise_cons.1 (List.pairwise_append.1 hup).2.1).2 hc hn
  have ln : ∀ x : List Int, (btw (fun a b : Int => a < b) lo hi x).length ≤ x.length := fun x => List.length_filter_le _ _
  have nl := ln (lst l)
  have HC := hide hcur
  have C0 := hide c0
  have C2 := hide c2
  have C3 := hide c3
  have S1 := hide hs1
  have S2 := hide hs2
  clear hu hul hur hl hr c0 c1 c2 c3 hup hlen ihl ihr hcur hB ln hs1 hs2
  generalize btw (fun a b : Int => a < b) lo hi (lst l) = BL at *
  generalize btw (fun a b : Int => a < b) lo hi (lst r) = BR at *
  generalize hres : acc ++ ((if 0 < s1 then BL else []) ++ ((if 0 ≤ s1 ∧ s2 ≤ 0 then [a] else []) ++ (if s2 < 0 then BR else []))) = res
  have HRES := hide hres
  clear hres
  obtain ⟨i0, hi0, hz0, hz1, hz2⟩ := info_parts Tryz.info3
  go_enter Tryz.func77, Tryz.ntmps77
  go_wp2_with fail
  go_quiet (first
    | (go_at_call_of 101 (Value.int .i64 lo); exact Calls.quiet_of_same (S1.out _))
    | (go_at_call_of 101 (Value.int .i64 hi); exact Calls.quiet_of_same (S2.out _)))
  go_wp2_with (first
    | (go_at_call_of 77 (Value.pointer ul); refine (IL.out _ _ _ (cur_drewN HC.out) (by omega)).mono ?_; rintro e w1 ⟨v1, rfl, hcur1⟩; have e0 : w1.cell? ⟨b, 0, none⟩ = some (.int .i64 a) := (hcur1.1.cell (p := ⟨b, 0, none⟩) hblt).trans C0.out; have e3 : w1.cell? ⟨b, 3, none⟩ = some (.pointer ur) := (hcur1.1.cell (p := ⟨b, 3, none⟩) hblt).trans C3.out; have n1 : (acc ++ BL).length ≤ acc.length + (lst l).length := (by simp; omega); have HC1 := hide hcur1; clear hcur1)
    | (at_builtin; refine wpList_append_own _ rfl _ _ 129 rfl w0.heap.size 3 i0 (.int .i64 0) 1 8 Tryz.underlying129 hi0 hz0 hz1 hz2 rfl (by decide) _ _ _ rfl (HC1.out.2.alloc _) ⟨w1.heap.size, 0, none⟩ 1 1 [.int .i64 a] rfl rfl (cell_one_new _ _ _) (by intro u hu; simp at hu; subst hu; rfl) (by unfold maxLen; omega) (by omega) (by have := HC1.out.1.size; simp at this ⊢; omega) ?_; intro v2 w2 hown2 hgrow2 _; have hc2 := cur_append HC1.out hown2 hgrow2; have f0 : w2.cell? ⟨b, 0, none⟩ = some (.int .i64 a) := (hc2.1.cell (p := ⟨b, 0, none⟩) hblt).trans C0.out; have f3 : w2.cell? ⟨b, 3, none⟩ = some (.pointer ur) := (hc2.1.cell (p := ⟨b, 3, none⟩) hblt).trans C3.out; have n2 : ((acc ++ BL) ++ [a]).length ≤ (acc ++ BL).length + 1 := (by rw [List.length_append]; exact Nat.le_refl _); have HC2 := hide hc2; clear hc2 hown2 hgrow2)
    | (at_builtin; refine wpList_append_own _ rfl _ _ 129 rfl w0.heap.size 3 i0 (.int .i64 0) 1 8 Tryz.underlying129 hi0 hz0 hz1 hz2 rfl (by decide) _ _ _ rfl ((cur_drewN (n := nq) HC.out).2.alloc _) ⟨w.heap.size, 0, none⟩ 1 1 [.int .i64 a] rfl rfl (cell_one_new _ _ _) (by intro u hu; simp at hu; subst hu; rfl) (by unfold maxLen; omega) (by omega) (by have := (cur_drewN (n := nq) HC.out).1.size; simp at this ⊢; omega) ?_; intro v2 w2 hown2 hgrow2 _; have hc2 := cur_append (cur_drewN (n := nq) HC.out) hown2 hgrow2; have f0 : w2.cell? ⟨b, 0, none⟩ = some (.int .i64 a) := (hc2.1.cell (p := ⟨b, 0, none⟩) hblt).trans C0.out; have f3 : w2.cell? ⟨b, 3, none⟩ = some (.pointer ur) := (hc2.1.cell (p := ⟨b, 3, none⟩) hblt).trans C3.out; have n2 : (acc ++ [a]).length ≤ acc.length + 1 := (by rw [List.length_append]; exact Nat.le_refl _); have HC2 := hide hc2; clear hc2 hown2 hgrow2)
    | (go_at_call_of 77 (Value.pointer ur); refine (IR.out _ _ _ HC2.out (by omega)).mono ?_; rintro e w3 ⟨v3, rfl, hcur3⟩; have HC3 := hide hcur3; clear hcur3)
    | (go_at_call_of 77 (Value.pointer ur); refine (IR.out _ _ _ HC1.out (by omega)).mono ?_; rintro e w3 ⟨v3, rfl, hcur3⟩; have HC3 := hide hcur3; clear hcur3)
    | (go_at_call_of 77 (Value.pointer ur); refine (IR.out _ _ _ (cur_drewN HC.out) (by omega)).mono ?_; rintro e w3 ⟨v3, rfl, hcur3⟩; have HC3 := hide hcur3; clear hcur3))
  all_goals go_ret
  all_goals
    refine ⟨_, rfl, ?_⟩
    rw [← HRES.out]
    first | rw [if_pos (by omega : 0 < s1)] | rw [if_neg (by omega : ¬ 0 < s1)]
    first | rw [if_pos (by omega : 0 ≤ s1 ∧ s2 ≤ 0)] | rw [if_neg (by omega : ¬ (0 ≤ s1 ∧ s2 ≤ 0))]
    first | rw [if_pos (by omega : s2 < 0)] | rw [if_neg (by omega : ¬ s2 < 0)]
    first | simpa using HC3.out | simpa using HC2.out | simpa using HC1.out | simpa using (cur_drewN (n := nq) HC.out)
end Go.Proofs.YtkncboinfcnklabGreatDoor.WI

namespace Go.Proofs.YtkncboinfcnklabGreatDoor.WI
open Go.RowKit Go.Deep Mth

theorem cmp_ex (x y : Int) : ∃ s : Int, (∀ w, Calls Tryz.prog 101 #[.int .i64 x, .int .i64 y] w fun e w' => e = .returned (.int .i64 s) ∧ w' = w) ∧ (0 < s ↔ y < x) ∧ (s < 0 ↔ x < y) := by
  rcases Int.lt_trichotomy x y with c | c | c
  · exact ⟨-1, fun w => cmp_lt x y w c, by omega, by omega⟩
  · subst c; exact ⟨0, fun w => cmp_eq x w, by omega, by omega⟩
  · exact ⟨1, fun w => cmp_gt x y w c, by omega, by omega⟩

theorem bet_any (lo hi : Int) (w0 : World) (T : BT Int) : BetSaid lo hi w0 T := by
  induction T with
  | nil => exact bet_nil lo hi w0
  | node b o a l r ihl ihr =>
    intro u w v acc hu h hup hcur hb
    have ho : o = 0 := h.1
    subst ho
    obtain ⟨s1, c1, p1, q1⟩ := cmp_ex a lo
    obtain ⟨s2, c2, p2, q2⟩ := cmp_ex a hi
    have hn := bet_node lo hi w0 b a l r ihl ihr s1 s2 c1 c2 u w v acc hu h hup hcur hb
    rw [lst] at hup
    have e : acc ++ btw (fun a b : Int => a < b) lo hi (lst (.node b 0 a l r)) = acc ++ ((if 0 < s1 then btw (fun a b : Int => a < b) lo hi (lst l) else []) ++ ((if 0 ≤ s1 ∧ s2 ≤ 0 then [a] else []) ++ (if s2 < 0 then btw (fun a b : Int => a < b) lo hi (lst r) else []))) := by
      rw [lst, btw_node]
      congr 1
      congr 1
      · by_cases c : 0 < s1
        · rw [if_pos c]
        · rw [if_neg c]; exact btw_low hup sordInt (by omega)
      · congr 1
        · by_cases c : 0 ≤ s1 ∧ s2 ≤ 0
          · rw [if_pos c, if_pos (by omega)]
          · rw [if_neg c, if_neg (by omega)]
        · by_cases c : s2 < 0
          · rw [if_pos c]
          · rw [if_neg c]; exact btw_high hup sordInt (by omega)
    rw [e]
    exact hn

set_option maxHeartbeats 400000 in
theorem between_any (sb : Nat) (T : BT Int) (lo hi : Int) (w : World) (h : SetAt w sb T) (hb : (lst T).length ≤ 4194304) :
    Calls Tryz.prog 54 #[.pointer (some ⟨sb, 0, none⟩), .int .i64 lo, .int .i64 hi] w (BetP w (btw (fun a b : Int => a < b) lo hi (lst T))) := by
  obtain ⟨hc, _, hT, hup⟩ := h
  obtain ⟨u, hu⟩ := ptr_pointer T
  rw [hu] at hc
  have B := hide (bet_any lo hi w T u w (.slice none 0 0) [] hu hT hup ⟨Below.refl _ _, World.ownsRow_nil _ _ _ _⟩ (by simpa using hb))
  clear hu hT hup hb
  go_enter Tryz.func54, Tryz.ntmps54
  go_wp2_with (go_at_call 77; refine B.out.mono ?_; rintro e w1 ⟨v1, rfl, hcur⟩; have HC := hide hcur; clear hcur)
  go_ret
  exact ⟨v1, rfl, by simpa using HC.out⟩

end Go.Proofs.YtkncboinfcnklabGreatDoor.WI

namespace Go.Proofs.YtkncboinfcnklabGreatDoor
open Go.RowKit Go.Deep Go.Proofs.YtkncboinfcnklabGreatDoor.Mth

theorem hideG {p : Prop} (h : p) : Hid p := h

theorem no_up {p : Nat → Bool} {n c : Nat} (hm : ∀ i j, i ≤ j → j < n → p i = true → p j = true) (hp : p c = false) (hc : c < n) : ∀ q, q < c + 1 → p q = false := by
  intro q hq
  cases h : p q
  · rfl
  · have := hm q c (by omega) hc h
    rw [hp] at this
    cases this

/-- What a search for the first number with p tells. -/
def Srch (w : World) (n : Nat) (p : Nat → Bool) (e : Ending) (w' : World) : Prop := ∃ k : Nat, e = .returned (.int .i64 (k : Int)) ∧ k ≤ n ∧ (∀ i, i < k → p i = false) ∧ (∀ i, k ≤ i → i < n → p i = true) ∧ ∃ m, w' = w.drewN m

set_option maxRecDepth 100000 in
set_option maxHeartbeats 1000000 in
theorem search_find1 (n : Nat) (x y : Nat) (p : Nat → Bool) (w : World) (hn : n ≤ 4194304) (hm : ∀ i j, i ≤ j → j < n → p i = true → p j = true)
    (hf : ∀ i m, i < n → Calls Tryz.prog 52 #[.int .i64 (i : Int), .pointer (some ⟨x, 0, none⟩), .pointer (some ⟨y, 0, none⟩)] (w.drewN m) fun e w' => e = .returned (.bool (p i)) ∧ ∃ m', w' = w.drewN m') :
    Calls Tryz.prog 51 #[.int .i64 (n : Int), .func (.func 52) #[] #[.pointer (some ⟨x, 0, none⟩), .pointer (some ⟨y, 0, none⟩)]] w (Srch w n p) := by
  have HM := hideG hm
  have HF := hideG hf
  clear hm hf
  go_enter Tryz.func51, Tryz.ntmps51
  go_wp2_with fail
  go_loopw [5, 6] (fun i j wr => ∃ (a b m : Nat), a ≤ b ∧ b ≤ n ∧ i = .int .i64 a ∧ j = .int .i64 b ∧ wr = w.drewN m ∧ (∀ q, q < a → p q = false) ∧ (∀ q, b ≤ q → q < n → p q = true)) (fun i j _ => (intOf j).toNat - (intOf i).toNat)
  case atStart => exact ⟨0, n, 0, Nat.zero_le _, Nat.le_refl _, rfl, rfl, rfl, fun q hq => absurd hq (Nat.not_lt_zero _), fun q h1 h2 => by omega⟩
  case round =>
    obtain ⟨a, b, m, hab, hb, rfl, rfl, rfl, h1, h2⟩ := hrel
    have H1 := hideG h1
    have H2 := hideG h2
    clear h1 h2
    by_cases hlt : a < b
    · obtain ⟨c, hc⟩ : ∃ c, c = (a + b) / 2 := ⟨_, rfl⟩
      have hc1 : ((a : Int) + (b : Int)) / 2 = (c : Int) := by omega
      have hca : a ≤ c := by omega
      have hcb : c < b := by omega
      have HC := hideG hc
      clear hc
      have CF := hideG (HF.out c m (by omega))
      cases hp : p c
      · have HP := hideG hp
        rw [hp] at CF
        clear hp
        go_wp2_with (first | (rw [hc1]; go_at_call 52; refine CF.out.mono ?_; rintro e w2 ⟨rfl, m2, rfl⟩) | (go_at_call 52; refine CF.out.mono ?_; rintro e w2 ⟨rfl, m2, rfl⟩))
        go_roundw
        case rel => exact ⟨c + 1, b, m2, by omega, hb, by go_num, rfl, rfl, no_up HM.out HP.out (by omega), H2.out⟩
        case measure => simp [intOf]; omega
      · have HP := hideG hp
        rw [hp] at CF
        clear hp
        go_wp2_with (first | (rw [hc1]; go_at_call 52; refine CF.out.mono ?_; rintro e w2 ⟨rfl, m2, rfl⟩) | (go_at_call 52; refine CF.out.mono ?_; rintro e w2 ⟨rfl, m2, rfl⟩))
        go_roundw
        case rel => exact ⟨a, c, m2, hca, by omega, rfl, by go_num, rfl, H1.out, fun q h1 h2 => HM.out c q h1 h2 HP.out⟩
        case measure => simp [intOf]; omega
    · have : a = b := by omega
      subst this
      go_wp2
      go_ret
      exact ⟨a, rfl, hb, H1.out, H2.out, m, rfl⟩

set_option maxRecDepth 100000 in
set_option maxHeartbeats 1000000 in
theorem search_find2 (n : Nat) (x y : Nat) (p : Nat → Bool) (w : World) (hn : n ≤ 4194304) (hm : ∀ i j, i ≤ j → j < n → p i = true → p j = true)
    (hf : ∀ i m, i < n → Calls Tryz.prog 53 #[.int .i64 (i : Int), .pointer (some ⟨x, 0, none⟩), .pointer (some ⟨y, 0, none⟩)] (w.drewN m) fun e w' => e = .returned (.bool (p i)) ∧ ∃ m', w' = w.drewN m') :
    Calls Tryz.prog 51 #[.int .i64 (n : Int), .func (.func 53) #[] #[.pointer (some ⟨x, 0, none⟩), .pointer (some ⟨y, 0, none⟩)]] w (Srch w n p) := by
  have HM := hideG hm
  have HF := hideG hf
  clear hm hf
  go_enter Tryz.func51, Tryz.ntmps51
  go_wp2_with fail
  go_loopw [5, 6] (fun i j wr => ∃ (a b m : Nat), a ≤ b ∧ b ≤ n ∧ i = .int .i64 a ∧ j = .int .i64 b ∧ wr = w.drewN m ∧ (∀ q, q < a → p q = false) ∧ (∀ q, b ≤ q → q < n → p q = true)) (fun i j _ => (intOf j).toNat - (intOf i).toNat)
  case atStart => exact ⟨0, n, 0, Nat.zero_le _, Nat.le_refl _, rfl, rfl, rfl, fun q hq => absurd hq (Nat.not_lt_zero _), fun q h1 h2 => by omega⟩
  case round =>
    obtain ⟨a, b, m, hab, hb, rfl, rfl, rfl, h1, h2⟩ := hrel
    have H1 := hideG h1
    have H2 := hideG h2
    clear h1 h2
    by_cases hlt : a < b
    · obtain ⟨c, hc⟩ : ∃ c, c = (a + b) / 2 := ⟨_, rfl⟩
      have hc1 : ((a : Int) + (b : Int)) / 2 = (c : Int) := by omega
      have hca : a ≤ c := by omega
      have hcb : c < b := by omega
      have HC := hideG hc
      clear hc
      have CF := hideG (HF.out c m (by omega))
      cases hp : p c
      · have HP := hideG hp
        rw [hp] at CF
        clear hp
        go_wp2_with (first | (rw [hc1]; go_at_call 53; refine CF.out.mono ?_; rintro e w2 ⟨rfl, m2, rfl⟩) | (go_at_call 53; refine CF.out.mono ?_; rintro e w2 ⟨rfl, m2, rfl⟩))
        go_roundw
        case rel => exact ⟨c + 1, b, m2, by omega, hb, by go_num, rfl, rfl, no_up HM.out HP.out (by omega), H2.out⟩
        case measure => simp [intOf]; omega
      · have HP := hideG hp
        rw [hp] at CF
        clear hp
        go_wp2_with (first | (rw [hc1]; go_at_call 53; refine CF.out.mono ?_; rintro e w2 ⟨rfl, m2, rfl⟩) | (go_at_call 53; refine CF.out.mono ?_; rintro e w2 ⟨rfl, m2, rfl⟩))
        go_roundw
        case rel => exact ⟨a, c, m2, hca, by omega, rfl, by go_num, rfl, H1.out, fun q h1 h2 => HM.out c q h1 h2 HP.out⟩
        case measure => simp [intOf]; omega
    · have : a = b := by omega
      subst this
      go_wp2
      go_ret
      exact ⟨a, rfl, hb, H1.out, H2.out, m, rfl⟩

set_option maxRecDepth 100000 in
set_option maxHeartbeats 1000000 in
theorem search_follow (n : Nat) (x y z : Nat) (p : Nat → Bool) (w : World) (hn : n ≤ 4194304) (hm : ∀ i j, i ≤ j → j < n → p i = true → p j = true)
    (hf : ∀ i m, i < n → Calls Tryz.prog 117 #[.int .i64 (i : Int), .pointer (some ⟨x, 0, none⟩), .pointer (some ⟨y, 0, none⟩), .pointer (some ⟨z, 0, none⟩)] (w.drewN m) fun e w' => e = .returned (.bool (p i)) ∧ ∃ m', w' = w.drewN m') :
    Calls Tryz.prog 51 #[.int .i64 (n : Int), .func (.func 117) #[] #[.pointer (some ⟨x, 0, none⟩), .pointer (some ⟨y, 0, none⟩), .pointer (some ⟨z, 0, none⟩)]] w (Srch w n p) := by
  have HM := hideG hm
  have HF := hideG hf
  clear hm hf
  go_enter Tryz.func51, Tryz.ntmps51
  go_wp2_with fail
  go_loopw [5, 6] (fun i j wr => ∃ (a b m : Nat), a ≤ b ∧ b ≤ n ∧ i = .int .i64 a ∧ j = .int .i64 b ∧ wr = w.drewN m ∧ (∀ q, q < a → p q = false) ∧ (∀ q, b ≤ q → q < n → p q = true)) (fun i j _ => (intOf j).toNat - (intOf i).toNat)
  case atStart => exact ⟨0, n, 0, Nat.zero_le _, Nat.le_refl _, rfl, rfl, rfl, fun q hq => absurd hq (Nat.not_lt_zero _), fun q h1 h2 => by omega⟩
  case round =>
    obtain ⟨a, b, m, hab, hb, rfl, rfl, rfl, h1, h2⟩ := hrel
    have H1 := hideG h1
    have H2 := hideG h2
    clear h1 h2
    by_cases hlt : a < b
    · obtain ⟨c, hc⟩ : ∃ c, c = (a + b) / 2 := ⟨_, rfl⟩
      have hc1 : ((a : Int) + (b : Int)) / 2 = (c : Int) := by omega
      have hca : a ≤ c := by omega
      have hcb : c < b := by omega
      have HC := hideG hc
      clear hc
      have CF := hideG (HF.out c m (by omega))
      cases hp : p c
      · have HP := hideG hp
        rw [hp] at CF
        clear hp
        go_wp2_with (first | (rw [hc1]; go_at_call 117; refine CF.out.mono ?_; rintro e w2 ⟨rfl, m2, rfl⟩) | (go_at_call 117; refine CF.out.mono ?_; rintro e w2 ⟨rfl, m2, rfl⟩))
        go_roundw
        case rel => exact ⟨c + 1, b, m2, by omega, hb, by go_num, rfl, rfl, no_up HM.out HP.out (by omega), H2.out⟩
        case measure => simp [intOf]; omega
      · have HP := hideG hp
        rw [hp] at CF
        clear hp
        go_wp2_with (first | (rw [hc1]; go_at_call 117; refine CF.out.mono ?_; rintro e w2 ⟨rfl, m2, rfl⟩) | (go_at_call 117; refine CF.out.mono ?_; rintro e w2 ⟨rfl, m2, rfl⟩))
        go_roundw
        case rel => exact ⟨a, c, m2, hca, by omega, rfl, by go_num, rfl, H1.out, fun q h1 h2 => HM.out c q h1 h2 HP.out⟩
        case measure => simp [intOf]; omega
    · have : a = b := by omega
      subst this
      go_wp2
      go_ret
      exact ⟨a, rfl, hb, H1.out, H2.out, m, rfl⟩
end Go.Proofs.YtkncboinfcnklabGreatDoor

namespace Go.Proofs.YtkncboinfcnklabGreatDoor
open Go.RowKit Go.Deep Go.Proofs.YtkncboinfcnklabGreatDoor.Mth

/-! ### tasks: slices.Index, slices.Contains, a worker's has -/
abbrev tkV (x : Nat) : Value := .agg #[.int .i64 (x : Int), .int .i64 ((x : Int) + 1)]
/-- A slice whose elements read as the tasks of these levels. -/
def RdTk (w : World) (v : Value) (l : List Nat) : Prop :=
  ∃ (a : Option Addr) (c : Nat), v = .slice a l.length c ∧ l.length ≤ c ∧ c ≤ maxLen ∧ (l = [] ∨ ∃ b, a = some ⟨b, 0, none⟩ ∧ ∀ j, j < l.length → w.cell? ⟨b, j * 2, none⟩ = some (.int .i64 ((l.getD j 0 : Nat) : Int)) ∧ w.cell? ⟨b, j * 2 + 1, none⟩ = some (.int .i64 (((l.getD j 0 : Nat) : Int) + 1)))
theorem RdTk.below {w w' : World} {v : Value} {l : List Nat} (h : RdTk w v l) (hb : Below w.heap.size w w') : RdTk w' v l := by
  obtain ⟨a, c, rfl, hc, hm, h⟩ := h
  refine ⟨a, c, rfl, hc, hm, ?_⟩
  rcases h with h | ⟨b, rfl, h⟩
  · exact Or.inl h
  · refine Or.inr ⟨b, rfl, fun j hj => ?_⟩
    obtain ⟨h1, h2⟩ := h j hj
    exact ⟨(hb.cell (p := ⟨b, j * 2, none⟩) (World.block_lt_of_cell? _ _ h1)).trans h1, (hb.cell (p := ⟨b, j * 2 + 1, none⟩) (World.block_lt_of_cell? _ _ h2)).trans h2⟩

theorem below_allocG (w : World) (o : Obj) : Below w.heap.size w (w.alloc o) := (Below.refl w.heap.size w).alloc (Nat.le_refl _) o
theorem drewG (w : World) (n : Nat) : Below w.heap.size w (w.drewN n) := ⟨rfl, rfl, rfl, Nat.le_refl _, fun _ _ => rfl⟩

theorem getDmem {α : Type} {l : List α} {k : Nat} {z : α} (h : k < l.length) : l.getD k z ∈ l := by
  simp [List.getD, h]

set_option maxRecDepth 100000 in
set_option maxHeartbeats 1000000 in
theorem tkIndex_any {v : Value} {l : List Nat} {w : World} (h : RdTk w v l) (x : Nat) (_hx : x ≤ 100) (hl : ∀ y ∈ l, y ≤ 100) :
    Calls Tryz.prog 156 #[v, tkV x] w fun e w' => ∃ r : Int, e = .returned (.int .i64 r) ∧ decide (0 ≤ r) = decide (x ∈ l) ∧ Below w.heap.size w w' := by
  obtain ⟨a, c, rfl, hc, hm, h⟩ := h
  unfold maxLen at hm
  have HB0 := hideG (below_allocG w (Obj.cells #[.int .i64 (x : Int), .int .i64 ((x : Int) + 1)] 108))
  have HH := hideG h
  have HL := hideG hl
  clear h hl
  have k0 : (w.alloc (Obj.cells #[.int .i64 (x : Int), .int .i64 ((x : Int) + 1)] 108)).cell? ⟨w.heap.size, 0, none⟩ = some (.int .i64 (x : Int)) := by simp
  have k1 : (w.alloc (Obj.cells #[.int .i64 (x : Int), .int .i64 ((x : Int) + 1)] 108)).cell? ⟨w.heap.size, 1, none⟩ = some (.int .i64 ((x : Int) + 1)) := by simp
  generalize hn : l.length = n at *
  have HN := hideG hn
  clear hn
  go_enter Tryz.func156, Tryz.ntmps156
  go_wp2_with fail
  generalize w.alloc (Obj.cells #[.int .i64 (x : Int), .int .i64 ((x : Int) + 1)] 108) = w1 at *
  go_loopw [8] (fun i wr => ∃ k : Nat, k ≤ n ∧ i = .int .i64 k ∧ Below w1.heap.size w1 wr ∧ ∀ j, j < k → l.getD j 0 ≠ x) (fun i _ => n - (intOf i).toNat)
  case atStart => exact ⟨0, Nat.zero_le _, rfl, Below.refl _ _, fun j hj => absurd hj (Nat.not_lt_zero _)⟩
  case round =>
    obtain ⟨k, hk, rfl, hb, hno⟩ := hrel
    have HBW := hideG hb
    have HNO := hideG hno
    have q0 : wr.cell? ⟨w.heap.size, 0, none⟩ = some (.int .i64 (x : Int)) := (hb.cell (p := ⟨w.heap.size, 0, none⟩) (World.block_lt_of_cell? _ _ k0)).trans k0
    have q1 : wr.cell? ⟨w.heap.size, 1, none⟩ = some (.int .i64 ((x : Int) + 1)) := (hb.cell (p := ⟨w.heap.size, 1, none⟩) (World.block_lt_of_cell? _ _ k1)).trans k1
    clear hb hno k0 k1
    by_cases hlt : k < n
    · rcases HH.out with h | ⟨b, rfl, h⟩
      · have := HN.out; rw [h] at this; simp at this; omega
      obtain ⟨h1, h2⟩ := h k hlt
      have d1 : wr.cell? ⟨b, k * 2, none⟩ = some (.int .i64 ((l.getD k 0 : Nat) : Int)) := by
        have e := (HB0.out.cell (p := ⟨b, k * 2, none⟩) (World.block_lt_of_cell? _ _ h1)).trans h1
        exact (HBW.out.cell (p := ⟨b, k * 2, none⟩) (World.block_lt_of_cell? _ _ e)).trans e
      have d2 : wr.cell? ⟨b, k * 2 + 1, none⟩ = some (.int .i64 (((l.getD k 0 : Nat) : Int) + 1)) := by
        have e := (HB0.out.cell (p := ⟨b, k * 2 + 1, none⟩) (World.block_lt_of_cell? _ _ h2)).trans h2
        exact (HBW.out.cell (p := ⟨b, k * 2 + 1, none⟩) (World.block_lt_of_cell? _ _ e)).trans e
      clear h h1 h2
      obtain ⟨y, hy⟩ : ∃ y, y = l.getD k 0 := ⟨_, rfl⟩
      rw [← hy] at d1 d2
      have HY := hideG hy
      clear hy
      by_cases hxy : x = y
      · subst hxy
        go_wp2
        go_quiet (fail)
        go_wp2
        go_ret
        exact ⟨k, rfl, by
          have hm : x ∈ l := by rw [HY.out]; exact getDmem (by rw [HN.out]; exact hlt)
          rw [decide_eq_true hm]; exact decide_eq_true (by omega), HB0.out.trans (((HBW.out.trans ((drewG wr _).mono HBW.out.size))).mono HB0.out.size)⟩
      · have q2 : ((x : Int) == (y : Int)) = false := by simp; omega
        go_wp2
        go_quiet (fail)
        go_wp2
        go_roundw
        case rel => exact ⟨k + 1, by omega, by go_num, HBW.out.trans ((drewG wr _).mono HBW.out.size), fun j hj => by
          by_cases c : j = k
          · subst c; rw [← HY.out]; exact fun q => hxy q.symm
          · exact HNO.out j (by omega)⟩
        case measure => simp [intOf]; omega
    · go_wp2
      go_ret
      exact ⟨-1, rfl, by
        have hm : ¬ x ∈ l := fun q => by
          obtain ⟨j, hj, e⟩ := List.mem_iff_getElem.1 q
          exact HNO.out j (by rw [HN.out] at hj; omega) (by simp [List.getD, hj, e])
        rw [decide_eq_false hm]; rfl, HB0.out.trans (HBW.out.mono HB0.out.size)⟩

set_option maxHeartbeats 1000000 in
theorem tkContains_any {v : Value} {l : List Nat} {w : World} (h : RdTk w v l) (x : Nat) (hx : x ≤ 100) (hl : ∀ y ∈ l, y ≤ 100) :
    Calls Tryz.prog 133 #[v, tkV x] w fun e w' => e = .returned (.bool (decide (x ∈ l))) ∧ Below w.heap.size w w' := by
  have HB0 := hideG (below_allocG w (Obj.cells #[.int .i64 (x : Int), .int .i64 ((x : Int) + 1)] 108))
  have CI := hideG (tkIndex_any (h.below HB0.out) x hx hl)
  obtain ⟨a, c, rfl, hc, hm, h⟩ := h
  clear h
  generalize decide (x ∈ l) = bb at *
  go_enter Tryz.func133, Tryz.ntmps133
  go_wp2_with (first | (go_at_call 156; refine CI.out.mono ?_; rintro e w2 ⟨r, rfl, hr, hb⟩; have HR := hideG hr; have HB2 := hideG hb; clear hr hb))
  go_ret
  exact ⟨by rw [← HR.out]; rfl, HB0.out.trans (HB2.out.mono HB0.out.size)⟩
end Go.Proofs.YtkncboinfcnklabGreatDoor

namespace Go.Proofs.YtkncboinfcnklabGreatDoor
open Go.RowKit Go.Deep Go.Proofs.YtkncboinfcnklabGreatDoor.Mth

/-- A worker: the levels of the tasks in its list; the one that it runs; how many segments it has read. -/
structure Wk where
  list : List Nat
  runs : Option Nat
  read : Nat
def rf : Option Nat → Int
  | none => 0
  | some i => i
def ri : Option Nat → Int
  | none => 0
  | some i => (i : Int) + 1
def nxV (b : Nat) : Option Nat → Value
  | none => .func (.func 62) #[.pointer (some ⟨b, 0, none⟩)] #[]
  | some _ => .func (.func 89) #[.pointer (some ⟨b, 0, none⟩)] #[]
def wkC (lb b : Nat) (k : Wk) (lv : Value) : Array Value := #[.pointer (some ⟨lb, 0, none⟩), lv, .int .i64 (rf k.runs), .int .i64 (ri k.runs), .int .i64 (k.read : Int), nxV b k.runs]
/-- A worker's block reads so. -/
def WkRd (w : World) (lb b : Nat) (k : Wk) : Prop := ∃ lv, w.heap[b]? = some (Obj.cells (wkC lb b k lv) 110 (0, 0)) ∧ RdTk w lv k.list
theorem WkRd.below {w w' : World} {lb b : Nat} {k : Wk} (h : WkRd w lb b k) (hb : Below w.heap.size w w') : WkRd w' lb b k := by
  obtain ⟨lv, h1, h2⟩ := h
  exact ⟨lv, (hb.block b (Array.getElem?_eq_some_iff.1 h1).1).trans h1, h2.below hb⟩
theorem cellG {w : World} {b : Nat} {C : Array Value} {t : TypeId} {j : Nat} {u : Value} (h : w.heap[b]? = some (Obj.cells C t (0, 0))) (hu : C[j]? = some u) : w.cell? ⟨b, j, none⟩ = some u ∧ w.frozen? ⟨b, j, none⟩ = false := by
  constructor
  · simp [World.cell?, h, hu]
  · simp [World.frozen?, h]

theorem eql_task (w : World) (a b c d : Int) : (binOp .eql 108 (.agg #[.int .i64 a, .int .i64 b]) (.agg #[.int .i64 c, .int .i64 d])).run Tryz.prog w = .ok (.bool ((a == c) && (b == d))) w := by
  simp [go_sem]
  by_cases h1 : a = c <;> by_cases h2 : b = d <;> simp [h1, h2]

def tkIn (k : Wk) (x : Nat) : Bool := decide (k.runs = some x) || decide (x ∈ k.list)
/-- Small levels. -/
def WkOk (k : Wk) : Prop := (∀ y ∈ k.list, y ≤ 4) ∧ (∀ y, k.runs = some y → y ≤ 4)

set_option maxRecDepth 100000 in
set_option maxHeartbeats 1000000 in
theorem wkHas_any {w : World} {lb b : Nat} {k : Wk} (h : WkRd w lb b k) (hk : WkOk k) (x : Nat) (hx : x ≤ 100) :
    Calls Tryz.prog 114 #[.pointer (some ⟨b, 0, none⟩), tkV x] w fun e w' => e = .returned (.bool (tkIn k x)) ∧ Below w.heap.size w w' := by
  have HB0 := hideG (below_allocG w (Obj.cells #[.int .i64 (x : Int), .int .i64 ((x : Int) + 1)] 108))
  have k0 : (w.alloc (Obj.cells #[.int .i64 (x : Int), .int .i64 ((x : Int) + 1)] 108)).cell? ⟨w.heap.size, 0, none⟩ = some (.int .i64 (x : Int)) := by simp
  have k1 : (w.alloc (Obj.cells #[.int .i64 (x : Int), .int .i64 ((x : Int) + 1)] 108)).cell? ⟨w.heap.size, 1, none⟩ = some (.int .i64 ((x : Int) + 1)) := by simp
  obtain ⟨lv, hb, hl⟩ := h.below HB0.out
  generalize hw1 : w.alloc (Obj.cells #[.int .i64 (x : Int), .int .i64 ((x : Int) + 1)] 108) = w1 at *
  have HW1 := hideG hw1
  obtain ⟨c1, _⟩ := cellG (j := 1) (u := lv) hb rfl
  obtain ⟨c2, _⟩ := cellG (j := 2) (u := .int .i64 (rf k.runs)) hb rfl
  obtain ⟨c3, _⟩ := cellG (j := 3) (u := .int .i64 (ri k.runs)) hb rfl
  have CC := hideG (fun d os => Calls.regrown_of (w := w1) (d := d) (os := os) ((tkContains_any (hl.below (below_regrown w1 d os)) x hx (fun y hy => Nat.le_trans (hk.1 y hy) (by omega))).mono fun e w' q => ⟨q.1, q.2⟩))
  have d0 := cell_regrown k0
  have d1 := cell_regrown k1
  have e1 := cell_regrown c1
  have e2 := cell_regrown c2
  have e3 := cell_regrown c3
  clear k0 k1 c1 c2 c3 hw1
  obtain ⟨a, c, rfl, hc, hm, hl⟩ := hl
  clear hl hb h
  have hr : ((rf k.runs == (x : Int)) && (ri k.runs == (x : Int) + 1)) = decide (k.runs = some x) := by
    rw [Bool.eq_iff_iff]
    cases k.runs with
    | none => simp only [rf, ri, Bool.and_eq_true, beq_iff_eq, decide_eq_true_eq]; exact ⟨fun h => by omega, fun h => by cases h⟩
    | some i => simp only [rf, ri, Bool.and_eq_true, beq_iff_eq, decide_eq_true_eq, Option.some.injEq]; exact ⟨fun h => by omega, fun h => by subst h; exact ⟨rfl, rfl⟩⟩
  generalize hti : tkIn k x = ti
  unfold tkIn at hti
  generalize decide (k.runs = some x) = b1 at *
  generalize rf k.runs = r1 at *
  generalize ri k.runs = r2 at *
  generalize decide (x ∈ k.list) = b2 at *
  have HTI := hideG hti
  have heq : ∀ W, (binOp .eql 108 (.agg #[.int .i64 r1, .int .i64 r2]) (.agg #[.int .i64 (x : Int), .int .i64 ((x : Int) + 1)])).run Tryz.prog W = .ok (.bool b1) W := fun W => by rw [eql_task, hr]
  clear hti hr
  cases b1
  · go_enter Tryz.func114, Tryz.ntmps114
    go_wp2_with fail
    rw [HW1.out]
    refine wp_region_quiet_below (by kernel_rfl) (by kernel_rfl) ?_
    repeat (go_big_quiet_step (first | (go_at_call 133; exact CC.out _ _)))
    refine wpQuiet_nil ?_
    intro _ hw'
    obtain ⟨⟨dq, osq⟩, hw''⟩ := hw'
    subst hw''
    go_wp2
    go_ret
    exact ⟨by rw [← HTI.out]; simp, HB0.out.trans ((below_regrown w1 dq osq).mono HB0.out.size)⟩
  · go_enter Tryz.func114, Tryz.ntmps114
    go_wp2_with fail
    rw [HW1.out]
    refine wp_region_quiet_below (by kernel_rfl) (by kernel_rfl) ?_
    repeat (go_big_quiet_step (first | (go_at_call 133; exact CC.out _ _)))
    refine wpQuiet_nil ?_
    intro _ hw'
    obtain ⟨⟨dq, osq⟩, hw''⟩ := hw'
    subst hw''
    go_wp2
    go_ret
    exact ⟨by rw [← HTI.out]; simp, HB0.out.trans ((below_regrown w1 dq osq).mono HB0.out.size)⟩
end Go.Proofs.YtkncboinfcnklabGreatDoor
