import Derived.Test.YtkncboinfcnklaaGreatDoorSa
import Derived.Lib.OwnBridge
import Derived.Test.YtkncboinfcnklaaGreatDoorShelf
import Derived.Laws.AppendOwnNone
import Derived.Test.YtkncboinfcnklaaGreatDoorMath3
namespace Go.Proofs.YtkncboinfcnklaaGreatDoor.Str
open Go.RowKit Go.Deep Go.Proofs.YtkncboinfcnklaaGreatDoor.Mth

theorem Tryz.info9 : (Tryz.prog.info? 9).map (fun i => (i.zero, i.size, i.bytes)) = some (some (.string ByteArray.empty), 1, 16) := by kernel_rfl

theorem below_append {B : Nat} {w0 w w2 : World} {v : Value} {o : Obj} {e : TypeId} {n : Nat} {xs : List Value} (hb : Below B w0 w) (hB : B ≤ w.heap.size) (hown : w.ownsRow B e 1 v n xs) (hg : (w.alloc o).grownBy w2 v.ownBlock) : Below B w0 w2 := by
  refine (hb.alloc hB o).grown hg (by simp; omega) ?_
  intro k hk
  rcases hown.2 with ⟨h0, _⟩ | ⟨g, cap, cur, hv, hbase, _⟩
  · subst h0; simp [Value.ownBlock] at hk
  · subst hv; simp [Value.ownBlock] at hk; omega

/-- A slice of the call's own that holds these numbers; below B nothing has turned. -/
def Cur (w0 w : World) (v : Value) (l : List ByteArray) : Prop := Below w0.heap.size w0 w ∧ w.ownsRow w0.heap.size 9 1 v l.length (l.map eS)

theorem cur_append {w0 w w2 : World} {v v2 : Value} {o : Obj} {l : List ByteArray} {a : ByteArray} (h : Cur w0 w v l) (h2 : w2.ownsRow w0.heap.size 9 1 v2 (l.length + 1) (l.map eS ++ [.string a])) (hg : (w.alloc o).grownBy w2 v.ownBlock) : Cur w0 w2 v2 (l ++ [a]) :=
  ⟨below_append h.1 h.1.size h.2 hg, by simpa using h2⟩

theorem cur_drewN {w0 w : World} {v : Value} {l : List ByteArray} {n : Nat} (h : Cur w0 w v l) : Cur w0 (w.drewN n) v l := ⟨⟨h.1.os, h.1.tape, h.1.output, h.1.size, h.1.block⟩, h.2⟩

def BetP (w0 : World) (l : List ByteArray) (e : Ending) (w' : World) : Prop := ∃ v', e = .returned v' ∧ Cur w0 w' v' l

def BetSaid (lo hi : ByteArray) (w0 : World) (T : BT ByteArray) : Prop := ∀ (u : Option Addr) (w : World) (v : Value) (acc : List ByteArray), T.ptr = .pointer u → InT eS w0 T → (lst T).Pairwise ltS → Cur w0 w v acc → acc.length + (lst T).length ≤ 4194304 →
  Calls Tryz.prog 237 #[.pointer u, v, .string lo, .string hi] w (BetP w0 (acc ++ btw ltS lo hi (lst T)))

set_option maxHeartbeats 400000 in
theorem bet_nil (lo hi : ByteArray) (w0 : World) : BetSaid lo hi w0 .nil := by
  intro u w v acc hu _ _ hcur _
  have hu' : u = none := by
    have : Value.pointer none = .pointer u := hu
    injection this with h
    exact h.symm
  subst hu'
  have HC := hide hcur
  clear hu hcur
  go_enter Tryz.func237, Tryz.ntmps237
  go_wp2
  go_ret
  exact ⟨v, rfl, by simpa [lst, btw] using HC.out⟩

set_option maxRecDepth 100000 in
set_option maxHeartbeats 4000000 in
theorem bet_node (lo hi : ByteArray) (w0 : World) (b : Nat) (a : ByteArray) (l r : BT ByteArray) (ihl : BetSaid lo hi w0 l) (ihr : BetSaid lo hi w0 r) (s1 s2 : Int) (hs1 : ∀ w, Calls Tryz.prog 236 #[.string a, .string lo] w fun e w' => e = .returned (.int .i64 s1) ∧ w' = w) (hs2 : ∀ w, Calls Tryz.prog 236 #[.string a, .string hi] w fun e w' => e = .returned (.int .i64 s2) ∧ w' = w)
    (u : Option Addr) (w : World) (v : Value) (acc : List ByteArray) (hu : (BT.node b 0 a l r).ptr = .pointer u) (h : InT eS w0 (.node b 0 a l r)) (hup : (lst (.node b 0 a l r)).Pairwise ltS) (hcur : Cur w0 w v acc) (hb : acc.length + (lst (.node b 0 a l r)).length ≤ 4194304) :
    Calls Tryz.prog 237 #[.pointer u, v, .string lo, .string hi] w (BetP w0 (acc ++ ((if 0 < s1 then btw ltS lo hi (lst l) else []) ++ ((if 0 ≤ s1 ∧ s2 ≤ 0 then [a] else []) ++ (if s2 < 0 then btw ltS lo hi (lst r) else []))))) := by
  have hu' : u = some ⟨b, 0, none⟩ := by
    have : Value.pointer (some ⟨b, 0, none⟩) = .pointer u := hu
    injection this with h
    exact h.symm
  subst hu'
  have hblt := inT_lt h
  obtain ⟨_, c0, c1, c2, c3, hl, hr⟩ := h
  obtain ⟨ul, hul⟩ := ptr_pointer l
  obtain ⟨ur, hur⟩ := ptr_pointer r
  rw [hul] at c2
  rw [hur] at c3
  have hlen : (lst (.node b 0 a l r)).length = (lst l).length + 1 + (lst r).length := by simp [lst]; omega
  rw [hlen] at hb
  rw [lst] at hup
  have hB := hcur.1
  have k0 : w.cell? ⟨b, 0, none⟩ = some (.string a) := (hB.cell (p := ⟨b, 0, none⟩) hblt).trans c0
  have k2 : w.cell? ⟨b, 2, none⟩ = some (.pointer ul) := (hB.cell (p := ⟨b, 2, none⟩) hblt).trans c2
  have k3 : w.cell? ⟨b, 3, none⟩ = some (.pointer ur) := (hB.cell (p := ⟨b, 3, none⟩) hblt).trans c3
  have IL : Hid (∀ w v acc, Cur w0 w v acc → acc.length + (lst l).length ≤ 4194304 → Calls Tryz.prog 237 #[.pointer ul, v, .string lo, .string hi] w (BetP w0 (acc ++ btw ltS lo hi (lst l)))) :=
    fun w v acc hc hn => ihl ul w v acc hul hl (List.pairwise_append.1 hup).1 hc hn
  have IR : Hid (∀ w v acc, Cur w0 w v acc → acc.length + (lst r).length ≤ 4194304 → Calls Tryz.prog 237 #[.pointer ur, v, .string lo, .string hi] w (BetP w0 (acc ++ btw ltS lo hi (lst r)))) :=
    fun w v acc hc hn => ihr ur w v acc hur hr (List.pairwise_cons.1 (List.pairwise_append.1 hup).2.1).2 hc hn
  have ln : ∀ x : List ByteArray, (btw ltS lo hi x).length ≤ x.length := fun x => List.length_filter_le _ _
  have nl := ln (lst l)
  have HC := hide hcur
  have C0 := hide c0
  have C2 := hide c2
  have C3 := hide c3
  have S1 := hide hs1
  have S2 := hide hs2
  clear hu hul hur hl hr c0 c1 c2 c3 hup hlen ihl ihr hcur hB ln hs1 hs2
  generalize btw ltS lo hi (lst l) = BL at *
  generalize btw ltS lo hi (lst r) = BR at *
  generalize hres : acc ++ ((if 0 < s1 then BL else []) ++ ((if 0 ≤ s1 ∧ s2 ≤ 0 then [a] else []) ++ (if s2 < 0 then BR else []))) = res
  have HRES := hide hres
  clear hres
  obtain ⟨i0, hi0, hz0, hz1, hz2⟩ := info_parts Tryz.info9
  go_enter Tryz.func237, Tryz.ntmps237
  go_wp2_with fail
  go_quiet (first
    | (go_at_call_of 236 (Value.string lo); exact Calls.quiet_of_same (S1.out _))
    | (go_at_call_of 236 (Value.string hi); exact Calls.quiet_of_same (S2.out _)))
  go_wp2_with (first
    | (go_at_call_of 237 (Value.pointer ul); refine (IL.out _ _ _ (cur_drewN HC.out) (by omega)).mono ?_; rintro e w1 ⟨v1, rfl, hcur1⟩; have e0 : w1.cell? ⟨b, 0, none⟩ = some (.string a) := (hcur1.1.cell (p := ⟨b, 0, none⟩) hblt).trans C0.out; have e3 : w1.cell? ⟨b, 3, none⟩ = some (.pointer ur) := (hcur1.1.cell (p := ⟨b, 3, none⟩) hblt).trans C3.out; have n1 : (acc ++ BL).length ≤ acc.length + (lst l).length := (by simp; omega); have HC1 := hide hcur1; clear hcur1)
    | (at_builtin; refine wpList_append_own _ rfl _ _ 58 rfl w0.heap.size 9 i0 (.string ByteArray.empty) 1 16 Tryz.underlying58 hi0 hz0 hz1 hz2 rfl (by decide) _ _ _ rfl (HC1.out.2.alloc _) ⟨w1.heap.size, 0, none⟩ 1 1 [.string a] rfl rfl (cell_one_new _ _ _) (by intro u hu; simp at hu; subst hu; rfl) (by unfold maxLen; omega) (by omega) (by have := HC1.out.1.size; simp at this ⊢; omega) ?_; intro v2 w2 hown2 hgrow2 _; have hc2 := cur_append HC1.out hown2 hgrow2; have f0 : w2.cell? ⟨b, 0, none⟩ = some (.string a) := (hc2.1.cell (p := ⟨b, 0, none⟩) hblt).trans C0.out; have f3 : w2.cell? ⟨b, 3, none⟩ = some (.pointer ur) := (hc2.1.cell (p := ⟨b, 3, none⟩) hblt).trans C3.out; have n2 : ((acc ++ BL) ++ [a]).length ≤ (acc ++ BL).length + 1 := (by rw [List.length_append]; exact Nat.le_refl _); have HC2 := hide hc2; clear hc2 hown2 hgrow2)
    | (at_builtin; refine wpList_append_own _ rfl _ _ 58 rfl w0.heap.size 9 i0 (.string ByteArray.empty) 1 16 Tryz.underlying58 hi0 hz0 hz1 hz2 rfl (by decide) _ _ _ rfl ((cur_drewN (n := nq) HC.out).2.alloc _) ⟨w.heap.size, 0, none⟩ 1 1 [.string a] rfl rfl (cell_one_new _ _ _) (by intro u hu; simp at hu; subst hu; rfl) (by unfold maxLen; omega) (by omega) (by have := (cur_drewN (n := nq) HC.out).1.size; simp at this ⊢; omega) ?_; intro v2 w2 hown2 hgrow2 _; have hc2 := cur_append (cur_drewN (n := nq) HC.out) hown2 hgrow2; have f0 : w2.cell? ⟨b, 0, none⟩ = some (.string a) := (hc2.1.cell (p := ⟨b, 0, none⟩) hblt).trans C0.out; have f3 : w2.cell? ⟨b, 3, none⟩ = some (.pointer ur) := (hc2.1.cell (p := ⟨b, 3, none⟩) hblt).trans C3.out; have n2 : (acc ++ [a]).length ≤ acc.length + 1 := (by rw [List.length_append]; exact Nat.le_refl _); have HC2 := hide hc2; clear hc2 hown2 hgrow2)
    | (go_at_call_of 237 (Value.pointer ur); refine (IR.out _ _ _ HC2.out (by omega)).mono ?_; rintro e w3 ⟨v3, rfl, hcur3⟩; have HC3 := hide hcur3; clear hcur3)
    | (go_at_call_of 237 (Value.pointer ur); refine (IR.out _ _ _ HC1.out (by omega)).mono ?_; rintro e w3 ⟨v3, rfl, hcur3⟩; have HC3 := hide hcur3; clear hcur3)
    | (go_at_call_of 237 (Value.pointer ur); refine (IR.out _ _ _ (cur_drewN HC.out) (by omega)).mono ?_; rintro e w3 ⟨v3, rfl, hcur3⟩; have HC3 := hide hcur3; clear hcur3))
  all_goals go_ret
  all_goals
    refine ⟨_, rfl, ?_⟩
    rw [← HRES.out]
    first | rw [if_pos (by omega : 0 < s1)] | rw [if_neg (by omega : ¬ 0 < s1)]
    first | rw [if_pos (by omega : 0 ≤ s1 ∧ s2 ≤ 0)] | rw [if_neg (by omega : ¬ (0 ≤ s1 ∧ s2 ≤ 0))]
    first | rw [if_pos (by omega : s2 < 0)] | rw [if_neg (by omega : ¬ s2 < 0)]
    first | simpa using HC3.out | simpa using HC2.out | simpa using HC1.out | simpa using (cur_drewN (n := nq) HC.out)
end Go.Proofs.YtkncboinfcnklaaGreatDoor.Str

namespace Go.Proofs.YtkncboinfcnklaaGreatDoor.Str
open Go.RowKit Go.Deep Go.Proofs.YtkncboinfcnklaaGreatDoor.Mth

theorem cmp_ex (x y : ByteArray) : ∃ s : Int, (∀ w, Calls Tryz.prog 236 #[.string x, .string y] w fun e w' => e = .returned (.int .i64 s) ∧ w' = w) ∧ (0 < s ↔ ltS y x) ∧ (s < 0 ↔ ltS x y) := by
  rcases sordS.tri x y with c | c | c
  · exact ⟨-1, fun w => cmp_lt x y w c, ⟨fun h => absurd h (by omega), fun h => absurd (sordS.tr _ _ _ c h) (sordS.irr _)⟩, ⟨fun _ => c, fun _ => by omega⟩⟩
  · subst c; exact ⟨0, fun w => cmp_eq x w, ⟨fun h => absurd h (by omega), fun h => absurd h (sordS.irr _)⟩, ⟨fun h => absurd h (by omega), fun h => absurd h (sordS.irr _)⟩⟩
  · exact ⟨1, fun w => cmp_gt x y w c, ⟨fun _ => c, fun _ => by omega⟩, ⟨fun h => absurd h (by omega), fun h => absurd (sordS.tr _ _ _ c h) (sordS.irr _)⟩⟩

theorem bet_any (lo hi : ByteArray) (w0 : World) (T : BT ByteArray) : BetSaid lo hi w0 T := by
  induction T with
  | nil => exact bet_nil lo hi w0
  | node b o a l r ihl ihr =>
    intro u w v acc hu h hup hcur hb
    have ho : o = 0 := h.1
    subst ho
    obtain ⟨s1, c1, p1, q1⟩ := cmp_ex a lo
    obtain ⟨s2, c2, p2, q2⟩ := cmp_ex a hi
    have hn := bet_node lo hi w0 b a l r ihl ihr s1 s2 c1 c2 u w v acc hu h hup hcur hb
    rw [lst] at hup
    have e : acc ++ btw ltS lo hi (lst (.node b 0 a l r)) = acc ++ ((if 0 < s1 then btw ltS lo hi (lst l) else []) ++ ((if 0 ≤ s1 ∧ s2 ≤ 0 then [a] else []) ++ (if s2 < 0 then btw ltS lo hi (lst r) else []))) := by
      rw [lst, btw_node]
      congr 1
      congr 1
      · by_cases c : 0 < s1
        · rw [if_pos c]
        · rw [if_neg c]; exact btw_low hup sordS (fun h => c (p1.2 h))
      · congr 1
        · by_cases c : 0 ≤ s1 ∧ s2 ≤ 0
          · rw [if_pos c, if_pos ⟨fun h => by have := q1.2 h; omega, fun h => by have := p2.2 h; omega⟩]
          · rw [if_neg c, if_neg (fun h => c ⟨by by_cases d : s1 < 0; exact absurd (q1.1 d) h.1; omega, by by_cases d : 0 < s2; exact absurd (p2.1 d) h.2; omega⟩)]
        · by_cases c : s2 < 0
          · rw [if_pos c]
          · rw [if_neg c]; exact btw_high hup sordS (fun h => c (q2.2 h))
    rw [e]
    exact hn

set_option maxHeartbeats 400000 in
theorem between_any (sb : Nat) (T : BT ByteArray) (lo hi : ByteArray) (w : World) (h : SetAt w sb T) (hb : (lst T).length ≤ 4194304) :
    Calls Tryz.prog 184 #[.pointer (some ⟨sb, 0, none⟩), .string lo, .string hi] w (BetP w (btw ltS lo hi (lst T))) := by
  obtain ⟨hc, _, hT, hup⟩ := h
  obtain ⟨u, hu⟩ := ptr_pointer T
  rw [hu] at hc
  have B := hide (bet_any lo hi w T u w (.slice none 0 0) [] hu hT hup ⟨Below.refl _ _, World.ownsRow_nil _ _ _ _⟩ (by simpa using hb))
  clear hu hT hup hb
  go_enter Tryz.func184, Tryz.ntmps184
  go_wp2_with (go_at_call 237; refine B.out.mono ?_; rintro e w1 ⟨v1, rfl, hcur⟩; have HC := hide hcur; clear hcur)
  go_ret
  exact ⟨v1, rfl, by simpa using HC.out⟩

/-- A slice whose elements read as these numbers. -/
def Rd (w : World) (v : Value) (l : List ByteArray) : Prop :=
  ∃ (a : Option Addr) (c : Nat), v = .slice a l.length c ∧ l.length ≤ c ∧ c ≤ maxLen ∧ (a = none → c = 0) ∧ (l = [] ∨ ∃ b o, a = some ⟨b, o, none⟩ ∧ ∀ j, j < l.length → w.cell? ⟨b, o + j, none⟩ = some (.string (l.getD j ByteArray.empty)))

theorem Rd.below {w w' : World} {v : Value} {l : List ByteArray} (h : Rd w v l) (hb : Below w.heap.size w w') : Rd w' v l := by
  obtain ⟨a, c, rfl, hc, hm, hz, h⟩ := h
  refine ⟨a, c, rfl, hc, hm, hz, ?_⟩
  rcases h with h | ⟨b, o, rfl, h⟩
  · exact Or.inl h
  · refine Or.inr ⟨b, o, rfl, fun j hj => ?_⟩
    have h1 := h j hj
    exact (hb.cell (p := ⟨b, o + j, none⟩) (World.block_lt_of_cell? _ _ h1)).trans h1

theorem rd_own {w : World} {B : Nat} {v : Value} {l : List ByteArray} (h : w.ownsRow B 9 1 v l.length (l.map eS)) : Rd w v l := by
  by_cases hv : v = .slice none 0 0
  · have hl : l = [] := by
      rcases h.2 with ⟨_, h0⟩ | ⟨g, cap, cur, hv', _⟩
      · exact List.length_eq_zero_iff.1 h0
      · rw [hv] at hv'; cases hv'
    subst hl
    exact ⟨none, 0, hv, Nat.le_refl _, by unfold maxLen; omega, fun _ => rfl, Or.inl rfl⟩
  · obtain ⟨g, cap, rfl, _, _, hn, hm, _, hH⟩ := Lib.holds_of_ownsRow (enc := eS) h hv
    refine ⟨_, cap, rfl, hn, hm, (fun h => by cases h), Or.inr ⟨g, 0, rfl, fun j hj => ?_⟩⟩
    have := (hH j (by simpa using hj)).1
    rw [this]
    simp [getElem!_pos, hj, List.getD]

set_option maxHeartbeats 400000 in
theorem in_nil (a : Option Addr) (c : Nat) (x : ByteArray) (w : World) :
    Calls Tryz.prog 181 #[.slice a 0 c, .string x] w fun e w' => e = .returned (.bool false) ∧ w' = w := by
  go_enter Tryz.func181, Tryz.ntmps181
  go_wp2
  go_loop [5] (fun i => i = .int .i64 0) (fun _ => 0)
  case atStart => exact rfl
  case round =>
    subst hrel
    go_wp2
    go_ret
    exact ⟨rfl, rfl⟩

theorem mem_take_succ {l : List ByteArray} {k : Nat} {x : ByteArray} (hk : k < l.length) : x ∈ l.take (k + 1) ↔ x ∈ l.take k ∨ l.getD k ByteArray.empty = x := by
  have e : l.getD k ByteArray.empty = l[k] := by simp [List.getD, hk]
  rw [List.take_succ_eq_append_getElem hk, List.mem_append, List.mem_singleton, e]
  exact or_congr Iff.rfl eq_comm

set_option maxHeartbeats 1000000 in
theorem in_some (b o c : Nat) (l : List ByteArray) (x : ByteArray) (w : World) (hc : l.length ≤ c) (hm : c ≤ maxLen) (h : ∀ j, j < l.length → w.cell? ⟨b, o + j, none⟩ = some (.string (l.getD j ByteArray.empty))) :
    Calls Tryz.prog 181 #[.slice (some ⟨b, o, none⟩) l.length c, .string x] w fun e w' => e = .returned (.bool (memD x (l))) ∧ w' = w := by
  unfold maxLen at hm
  have H := hide h
  clear h
  generalize hn : l.length = n at *
  have HN := hide hn
  clear hn
  go_enter Tryz.func181, Tryz.ntmps181
  go_wp2
  go_loop [5] (fun i => ∃ k : Nat, k ≤ n ∧ i = .int .i64 k ∧ ¬ x ∈ l.take k) (fun i => n - (intOf i).toNat)
  case atStart => exact ⟨0, Nat.zero_le _, rfl, by simp⟩
  case round =>
    obtain ⟨k, hk, rfl, hno⟩ := hrel
    have HNO := hide hno
    clear hno
    by_cases hlt : k < n
    · have hcell := H.out k hlt
      generalize hy : l.getD k ByteArray.empty = y at *
      have HY := hide hy
      clear hy
      by_cases hxy : y = x
      · subst hxy
        go_wp2
        go_ret
        have e : memD y (l) = true := by apply memD_true; exact List.mem_of_mem_take ((mem_take_succ (by rw [HN.out]; exact hlt)).2 (Or.inr HY.out))
        exact ⟨by rw [e]; rfl, rfl⟩
      · have hbeq : (y.toList == x.toList) = false := by rw [eq_eq]; simpa using hxy
        go_wp2
        go_round
        case rel => exact ⟨k + 1, by omega, by go_num, fun hm => by rcases (mem_take_succ (by rw [HN.out]; exact hlt)).1 hm with h | h; exact HNO.out h; exact hxy (HY.out.symm.trans h)⟩
        case measure => simp [intOf]; omega
    · go_wp2
      go_ret
      have e : memD x (l) = false := by apply memD_false; intro hm; apply HNO.out; rw [List.take_of_length_le (by rw [HN.out]; omega)]; exact hm
      exact ⟨by rw [e]; rfl, rfl⟩

theorem in_any {v : Value} {l : List ByteArray} (x : ByteArray) {w : World} (h : Rd w v l) :
    Calls Tryz.prog 181 #[v, .string x] w fun e w' => e = .returned (.bool (memD x (l))) ∧ w' = w := by
  obtain ⟨a, c, rfl, hc, hm, _, h⟩ := h
  rcases h with h | ⟨b, o, rfl, h⟩
  · subst h
    refine (in_nil a c x w).mono ?_
    rintro e w' ⟨rfl, rfl⟩
    exact ⟨by rw [memD_false (by simp)], rfl⟩
  · exact in_some b o c l x w hc hm h
end Go.Proofs.YtkncboinfcnklaaGreatDoor.Str

namespace Go.Proofs.YtkncboinfcnklaaGreatDoor.Str
open Go.RowKit Go.Deep Go.Proofs.YtkncboinfcnklaaGreatDoor.Mth

theorem rd_cases {w : World} {v : Value} {l : List ByteArray} (h : Rd w v l) : (v = .slice none 0 0 ∧ l = []) ∨ ∃ ad c, v = .slice (some ad) l.length c ∧ (∀ j u, (l.map eS)[j]? = some u → w.cell? (ad.add j) = some u) ∧ l.length ≤ c ∧ c ≤ maxLen := by
  obtain ⟨a, c, rfl, hc, hm, hz, h⟩ := h
  cases a with
  | none =>
    have h0 := hz rfl
    subst h0
    have hl : l = [] := List.length_eq_zero_iff.1 (by omega)
    subst hl
    exact Or.inl ⟨rfl, rfl⟩
  | some ad =>
    refine Or.inr ⟨ad, c, rfl, ?_, hc, hm⟩
    intro j u hj
    rcases h with h | ⟨b, o, e, h⟩
    · subst h; simp at hj
    · injection e with e
      subst e
      have hj' : j < l.length := by
        have := (List.getElem?_eq_some_iff.1 hj).1
        simpa using this
      have h1 := h j hj'
      rw [Go.WideShapes.add_plain, h1]
      simp [List.getElem?_map, List.getElem?_eq_getElem hj'] at hj
      rw [← hj]
      simp [List.getD, hj']

theorem rd_len {w : World} {v : Value} {l : List ByteArray} (h : Rd w v l) : ∃ a c, v = .slice a l.length c ∧ l.length ≤ c ∧ c ≤ maxLen := by
  obtain ⟨a, c, rfl, hc, hm, _, _⟩ := h
  exact ⟨a, c, rfl, hc, hm⟩

theorem size_zeroCells (z : Array Value) (n : Nat) (hz : z.size = 1) : (Builtin.zeroCells z n).size = n := by
  simp [Builtin.zeroCells, hz]

theorem own_fresh (w : World) (cs : Array Value) (e : TypeId) (cap : Nat) (h : cs.size = cap) (hm : cap ≤ maxLen) : (w.alloc (.cells cs e)).ownsRow w.heap.size e 1 (.slice (some ⟨w.heap.size, 0, none⟩) 0 cap) 0 [] := by
  refine ⟨rfl, Or.inr ⟨w.heap.size, cap, cs, rfl, Nat.le_refl _, ?_, Nat.zero_le _, hm, by omega, by simp⟩⟩
  show (w.heap.push _)[w.heap.size]? = _
  rw [Array.getElem?_push, if_pos rfl]

theorem grow_any (n : Nat) (hn : n ≤ 4194304) (w : World) :
    Calls Tryz.prog 260 #[.slice none 0 0, .int .i64 n] w fun e w' => ∃ v, e = .returned v ∧ Cur w w' v [] := by
  by_cases h0 : n = 0
  · subst h0
    refine (Any8.slices_Grow_room Tryz.laysGrowS none 0 0 0 w (by omega) (by omega) (by omega) (by omega)).mono ?_
    rintro e w' ⟨rfl, rfl⟩
    exact ⟨_, rfl, Below.refl _ _, World.ownsRow_nil _ _ _ _⟩
  · obtain ⟨i0, hi0, hz0, hz1, hz2⟩ := info_parts Tryz.info9
    refine (Any8.slices_Grow_grow Tryz.laysGrowS i0 (.string ByteArray.empty) hi0 hz0 (by omega) none 0 0 n [] w (by omega) (by omega) (by rw [hz2]; omega) (by omega) (by simp) (fun _ => rfl) (fun a ha => by cases ha)).mono ?_
    rintro e w' ⟨rfl, rfl⟩
    refine ⟨_, rfl, (Below.refl w.heap.size w).drew.alloc (Nat.le_refl _) _, own_fresh w.drew _ 9 _ ?_ (grownCap_le_maxLen _ _ _ _ (by unfold maxLen; omega))⟩
    have hge := grownCap_ge w (0 + n) 0 (Tryz.laysGrowS_ren.t 25)
    rw [Array.size_append, Array.size_append, size_zeroCells _ _ rfl, size_zeroCells _ _ rfl]
    simp at hge ⊢
    omega
end Go.Proofs.YtkncboinfcnklaaGreatDoor.Str

namespace Go.Proofs.YtkncboinfcnklaaGreatDoor.Str
open Go.RowKit Go.Deep Go.Proofs.YtkncboinfcnklaaGreatDoor.Mth

/-- A slice of slices that read as these lists. -/
def RdL (w : World) (v : Value) (Ls : List (List ByteArray)) : Prop :=
  ∃ (a : Option Addr) (c : Nat), v = .slice a Ls.length c ∧ Ls.length ≤ c ∧ c ≤ maxLen ∧ (Ls = [] ∨ ∃ b o, a = some ⟨b, o, none⟩ ∧ ∀ i, i < Ls.length → ∃ vi, w.cell? ⟨b, o + i, none⟩ = some vi ∧ Rd w vi (Ls.getD i []))

theorem flat_succ {Ls : List (List ByteArray)} {k : Nat} (h : k < Ls.length) : (Ls.take (k + 1)).flatten = (Ls.take k).flatten ++ Ls.getD k [] := by
  rw [List.take_succ_eq_append_getElem h, List.flatten_append]
  simp [List.getD, h]

theorem flat_le (Ls : List (List ByteArray)) (k : Nat) : (Ls.take k).flatten.length ≤ Ls.flatten.length := by
  have h : Ls.flatten = (Ls.take k).flatten ++ (Ls.drop k).flatten := by rw [← List.flatten_append, List.take_append_drop]
  rw [h, List.length_append]
  omega

theorem cur_below {w0 w : World} {v : Value} {l : List ByteArray} (h : Cur w0 w v l) : Below w0.heap.size w0 w := h.1

theorem cur_more {w0 w w2 : World} {v v2 : Value} {l m : List ByteArray} {n : Nat} (h : Cur w0 w v l) (hn : n = m.length) (h2 : w2.ownsRow w0.heap.size 9 1 v2 (l.length + n) (l.map eS ++ m.map eS)) (hg : w.grownBy w2 v.ownBlock) : Cur w0 w2 v2 (l ++ m) := by
  subst hn
  refine ⟨h.1.grown hg h.1.size ?_, by simpa using h2⟩
  intro k hk
  rcases h.2.2 with ⟨h0, _⟩ | ⟨g, cap, cur, hv, hbase, _⟩
  · subst h0; simp [Value.ownBlock] at hk
  · subst hv; simp [Value.ownBlock] at hk; omega

set_option maxHeartbeats 400000 in
theorem concat_nil (a : Option Addr) (c : Nat) (w : World) :
    Calls Tryz.prog 224 #[.slice a 0 c] w fun e w' => ∃ v', e = .returned v' ∧ Cur w w' v' [] := by
  have G := hide (grow_any 0 (by omega) w)
  go_enter Tryz.func224, Tryz.ntmps224
  go_wp2_with fail
  go_loop [3, 11] (fun s i => s = .int .i64 0 ∧ i = .int .i64 0) (fun _ _ => 0)
  case atStart => exact ⟨rfl, rfl⟩
  case round =>
    obtain ⟨rfl, rfl⟩ := hrel
    go_wp2_with (go_at_call 260; refine G.out.mono ?_; rintro e w1 ⟨v1, rfl, hc1⟩; have HC1 := hide hc1; clear hc1)
    go_loop [6, 27] (fun s i => s = v1 ∧ i = .int .i64 0) (fun _ _ => 0)
    case atStart => exact ⟨rfl, rfl⟩
    case round =>
      obtain ⟨rfl, rfl⟩ := hrel
      go_wp2
      go_ret
      exact ⟨_, rfl, HC1.out⟩

set_option maxRecDepth 100000 in
set_option maxHeartbeats 4000000 in
theorem concat_some (b o c : Nat) (Ls : List (List ByteArray)) (w : World) (hc : Ls.length ≤ c) (hm : c ≤ maxLen) (h : ∀ i, i < Ls.length → ∃ vi, w.cell? ⟨b, o + i, none⟩ = some vi ∧ Rd w vi (Ls.getD i [])) (hb : Ls.flatten.length ≤ 4194304) (hne : 0 < Ls.length) :
    Calls Tryz.prog 224 #[.slice (some ⟨b, o, none⟩) Ls.length c] w fun e w' => ∃ v', e = .returned v' ∧ Cur w w' v' Ls.flatten := by
  unfold maxLen at hm
  have H := hide h
  have hblt : b < w.heap.size := by
    obtain ⟨vi, h1, _⟩ := h 0 hne
    exact World.block_lt_of_cell? _ _ h1
  have G := hide (fun n hn => grow_any n hn w)
  clear h
  obtain ⟨i0, hi0, hz0, hz1, hz2⟩ := info_parts Tryz.info9
  generalize hn : Ls.length = n at *
  have HN := hide hn
  clear hn
  go_enter Tryz.func224, Tryz.ntmps224
  go_wp2_with fail
  go_loop [3, 11] (fun s i => ∃ k : Nat, k ≤ n ∧ i = .int .i64 k ∧ s = .int .i64 ((Ls.take k).flatten.length)) (fun _ i => n - (intOf i).toNat)
  case atStart => exact ⟨0, Nat.zero_le _, rfl, by simp⟩
  case round =>
    obtain ⟨k, hk, rfl, rfl⟩ := hrel
    have hfl := flat_le Ls k
    by_cases hlt : k < n
    · obtain ⟨vi, hcell, hrd⟩ := H.out k hlt
      obtain ⟨ai, ci, rfl, _, _⟩ := rd_len hrd
      have hfl2 := flat_le Ls (k + 1)
      have hs := flat_succ (Ls := Ls) (k := k) (by rw [HN.out]; exact hlt)
      have hs' : (Ls.take (k + 1)).flatten.length = (Ls.take k).flatten.length + (Ls.getD k []).length := by rw [hs, List.length_append]
      have HS := hide hs'
      have hbd : (Ls.take k).flatten.length + (Ls.getD k []).length ≤ 4194304 := by omega
      clear hs hs' hrd hfl2
      generalize hX : (Ls.take k).flatten.length = X at *
      generalize hY : (Ls.getD k []).length = Y at *
      clear hX hY
      go_wp2
      go_round
      case rel => exact ⟨k + 1, by omega, by go_num, by rw [HS.out]; go_num⟩
      case measure => simp [intOf]; omega
    · have hkn : k = n := by omega
      subst hkn
      have hfull : (Ls.take k).flatten = Ls.flatten := by rw [List.take_of_length_le (by rw [HN.out]; exact Nat.le_refl _)]
      rw [hfull]
      rw [hfull] at hfl
      clear hfull
      generalize hL : Ls.flatten.length = L at *
      go_wp2_with (go_at_call 260; refine (G.out L (by omega)).mono ?_; rintro e w1 ⟨v1, rfl, hc1⟩; have HC1 := hide hc1; clear hc1)
      have HL := hide hL
      clear hL
      go_loopw [6, 27] (fun s i wr => ∃ j : Nat, j ≤ k ∧ i = .int .i64 j ∧ Cur w wr s (Ls.take j).flatten) (fun _ i _ => k - (intOf i).toNat)
      case atStart => exact ⟨0, Nat.zero_le _, rfl, by simpa using HC1.out⟩
      case round =>
        obtain ⟨j, hj, rfl, hcur⟩ := hrel
        by_cases hlt2 : j < k
        · obtain ⟨vi, hcell, hrd⟩ := H.out j hlt2
          have hcell' : wr.cell? ⟨b, o + j, none⟩ = some vi := (hcur.1.cell (p := ⟨b, o + j, none⟩) hblt).trans hcell
          have hs := flat_succ (Ls := Ls) (k := j) (by rw [HN.out]; exact hlt2)
          have hfl2 := flat_le Ls (j + 1)
          have hbd : (Ls.take j).flatten.length + (Ls.getD j []).length ≤ 4194304 := by rw [hs, List.length_append] at hfl2; have := HL.out; omega
          have HS := hide hs
          have HC := hide hcur
          have hsz := hcur.1.size
          clear hs hfl2 hcell hcur
          rcases rd_cases hrd with ⟨rfl, hl0⟩ | ⟨ad, ci, rfl, hcells, hci, hcm⟩
          · have hl0' : (Ls.take (j + 1)).flatten = (Ls.take j).flatten := by rw [HS.out, hl0]; simp
            have HL0 := hide hl0'
            clear hrd hl0 hl0'
            go_wp2_with (at_builtin; refine wpList_append_own_none rfl _ _ 58 rfl w.heap.size 9 i0 1 Tryz.underlying58 hi0 _ _ _ rfl HC.out.2 rfl ?_)
            go_roundw
            case rel => exact ⟨j + 1, by omega, by go_num, by rw [HL0.out]; exact HC.out⟩
            case measure => simp [intOf]; omega
          · have hnews : Hid (∀ q u, ((Ls.getD j []).map eS)[q]? = some u → wr.cell? (ad.add q) = some u) := by
              intro q u hq
              have h1 := hcells q u hq
              have h2 : (ad.add q).block = ad.block := by unfold Addr.add; split <;> rfl
              have h3 : (ad.add q).block < w.heap.size := World.block_lt_of_cell? _ _ h1
              exact (HC.out.1.cell (p := ad.add q) h3).trans h1
            have HCELLS := hide hcells
            clear hrd hcells
            generalize hY : (Ls.getD j []) = Y at *
            have HY := hide hY
            clear hY
            go_wp2_with (at_builtin; refine wpList_append_own _ rfl _ _ 58 rfl w.heap.size 9 i0 (.string ByteArray.empty) 1 16 Tryz.underlying58 hi0 hz0 hz1 hz2 rfl (by decide) _ _ _ rfl HC.out.2 ad Y.length ci (Y.map eS) rfl (by simp) hnews.out (by intro u hu; simp at hu; obtain ⟨z, _, rfl⟩ := hu; rfl) (by unfold maxLen; omega) (by omega) (by omega) ?_; intro v2 w2 hown2 hgrow2 _; have HC2 := hide (cur_more HC.out rfl hown2 hgrow2); clear hown2 hgrow2)
            go_roundw
            case rel => exact ⟨j + 1, by omega, by go_num, by rw [HS.out]; exact HC2.out⟩
            case measure => simp [intOf]; omega
        · have hjk : j = k := by omega
          subst hjk
          have HC := hide hcur
          clear hcur
          go_wp2
          go_ret
          exact ⟨_, rfl, by have := HC.out; rwa [List.take_of_length_le (by rw [HN.out]; exact Nat.le_refl _)] at this⟩

theorem concat_any {v : Value} {Ls : List (List ByteArray)} {w : World} (h : RdL w v Ls) (hb : Ls.flatten.length ≤ 4194304) :
    Calls Tryz.prog 224 #[v] w fun e w' => ∃ v', e = .returned v' ∧ Cur w w' v' Ls.flatten := by
  obtain ⟨a, c, rfl, hc, hm, h⟩ := h
  by_cases hne : Ls = []
  · subst hne
    simpa using concat_nil a c w
  · rcases h with h | ⟨b, o, rfl, h⟩
    · exact absurd h hne
    · exact concat_some b o c Ls w hc hm h hb (List.length_pos_iff.2 hne)
end Go.Proofs.YtkncboinfcnklaaGreatDoor.Str

namespace Go.Proofs.YtkncboinfcnklaaGreatDoor.Str
open Go.RowKit Go.Deep Go.Proofs.YtkncboinfcnklaaGreatDoor.Mth Go.Sort

theorem sort_at (g cap : Nat) (zs : List (List UInt8)) (w : World) (hH : Holds encStr w g 0 zs.toArray) (hg : g < w.heap.size) (hsz : zs.length ≤ 4194304) :
    Calls Tryz.prog 225 #[.slice (some ⟨g, 0, none⟩) zs.length cap] w fun e w' => e = .returned (.tuple #[]) ∧ ∃ n os, w' = grow (putRow encStr (Sort.ahead w n) g 0 (zs.mergeSort fun x y => decide (x ≤ y)).toArray) os :=
  Any.slices_Sort_string Tryz.laysSortS g 0 cap zs w hH hg (by omega)

theorem comp_at (g cap : Nat) (zs : List (List UInt8)) (w : World) (hH : Holds encStr w g 0 zs.toArray) (hc : zs.length ≤ cap) (hsz : zs.length ≤ 4194304) :
    Calls Tryz.prog 226 #[.slice (some ⟨g, 0, none⟩) zs.length cap] w fun e w' => e = .returned (.slice (some ⟨g, 0, none⟩) (Lib.compact zs).length cap) ∧ ∃ q, w' = putRow encStr (Sort.ahead w q) g 0 (Lib.compact zs ++ List.replicate (zs.length - (Lib.compact zs).length) []).toArray :=
  Any.slices_Compact_string Tryz.laysCompS g 0 cap zs w hH (by omega) hc

theorem sort_none_at (p : Option Addr) (cap : Nat) (w : World) : Calls Tryz.prog 225 #[.slice p 0 cap] w fun e w' => e = .returned (.tuple #[]) ∧ w' = w := Any.slices_Sort_string_none Tryz.laysSortS p cap w
theorem comp_none_at (p : Option Addr) (cap : Nat) (w : World) : Calls Tryz.prog 226 #[.slice p 0 cap] w fun e w' => e = .returned (.slice p 0 cap) ∧ w' = w := Any.slices_Compact_string_empty Tryz.laysCompS p cap w

theorem enc_of (l : List (List UInt8)) : (l.map ofL).map eS = l.map encStr := by
  rw [List.map_map]
  rfl

set_option maxRecDepth 100000 in
set_option maxHeartbeats 1000000 in
theorem merge_core (v : Value) (l : List ByteArray) (w : World) (C : Hid (Calls Tryz.prog 224 #[v] w fun e w' => ∃ v', e = .returned v' ∧ Cur w w' v' l)) (hb : l.length ≤ 4194304) :
    Calls Tryz.prog 161 #[v] w fun e w' => ∃ v', e = .returned v' ∧ Cur w w' v' (mergedS l) := by
  go_enter Tryz.func161, Tryz.ntmps161
  go_wp2_with fail
  refine C.out.mono ?_
  rintro e w1 ⟨v1, rfl, hcur⟩
  by_cases hv : v1 = .slice none 0 0
  · subst hv
    have hl : l = [] := by
      rcases hcur.2.2 with ⟨_, h0⟩ | ⟨g, cap, cur, hv', _⟩
      · exact List.length_eq_zero_iff.1 h0
      · cases hv'
    subst hl
    have HC := hide hcur
    clear hcur
    go_wp2_with (first
      | (go_at_call 225; refine (sort_none_at _ _ _).mono ?_; rintro e w' ⟨rfl, rfl⟩)
      | (go_at_call 226; refine (comp_none_at _ _ _).mono ?_; rintro e w' ⟨rfl, rfl⟩))
    go_ret
    exact ⟨_, rfl, by simpa [mergedS, mergedL, Lib.compact, Lib.compactUpTo] using HC.out⟩
  · have hown : w1.ownsRow w.heap.size 9 1 v1 l.length ((l.map (·.data.toList)).map encStr) := by rw [Lib.map_encStr]; exact hcur.2
    have hlow := hcur.1
    have hll : (l.map (·.data.toList)).length = l.length := List.length_map ..
    have hmm : mergedS l = (Lib.compact ((l.map (·.data.toList)).mergeSort fun x y => decide (x ≤ y))).map ofL := rfl
    generalize l.map (·.data.toList) = ss at *
    obtain ⟨g, cap, rfl, hbg, hgl, hncap, hcm, _, hH⟩ := Lib.holds_of_ownsRow (enc := encStr) hown hv
    have hs := hide (sort_at g cap ss w1 hH hgl (by omega))
    have hl2 : (ss.mergeSort fun x y => decide (x ≤ y)).length = ss.length := List.length_mergeSort ss
    generalize hts : (ss.mergeSort fun x y => decide (x ≤ y)) = ts at *
    rw [hll] at hs
    have HM := hide hmm
    have HL2 : Hid (ts.length = l.length) := hl2.trans hll
    have HLL := hide hll
    have HH := hide hH
    have HOWN := hide hown
    have HLOW := hide hlow
    clear hcur hH hts hv hmm hl2 hown hll hlow
    generalize hln : l.length = n at *
    clear hln
    go_wp2_with fail
    refine hs.out.mono ?_
    rintro e w2 ⟨rfl, nn, os, rfl⟩
    have hH2 : Holds encStr (grow (putRow encStr (Sort.ahead w1 nn) g 0 ts.toArray) os) g 0 ts.toArray :=
      holds_grow encStr _ os g 0 _ (by simpa [putRow, mapBlock, Sort.ahead] using hgl) (holds_putRow encStr _ g 0 _ _ (holds_ahead encStr w1 nn g 0 _ HH.out) (by simp [HL2.out, HLL.out]))
    have hcomp := comp_at g cap ts _ hH2 (by rw [HL2.out]; exact hncap) (by rw [HL2.out]; exact hb)
    rw [HL2.out] at hcomp
    have HCOMP := hide hcomp
    clear hH2 hcomp
    go_wp2_with fail
    refine HCOMP.out.mono ?_
    rintro e w3 ⟨rfl, q, rfl⟩
    have E := srt_end (nn := nn) (q := q) (os := os) (z := ([] : List UInt8)) (ts := ts) (HL2.out.trans HLL.out.symm) HOWN.out HLOW.out (Nat.le_refl _) HLOW.out.size
    have HE := hide E
    clear E
    go_wp2
    go_ret
    exact ⟨_, rfl, by rw [HM.out]; exact ⟨HE.out.2, by rw [enc_of, List.length_map]; exact HE.out.1⟩⟩

theorem merge_any {v : Value} {Ls : List (List ByteArray)} {w : World} (h : RdL w v Ls) (hb : Ls.flatten.length ≤ 4194304) :
    Calls Tryz.prog 161 #[v] w fun e w' => ∃ v', e = .returned v' ∧ Cur w w' v' (mergedS Ls.flatten) :=
  merge_core v _ w (concat_any h hb) hb
end Go.Proofs.YtkncboinfcnklaaGreatDoor.Str

namespace Go.Proofs.YtkncboinfcnklaaGreatDoor.Str
open Go.RowKit Go.Deep Go.Proofs.YtkncboinfcnklaaGreatDoor.Mth

/-- A slice of some elements, its first one by its own cell. -/
theorem rd_cons {w : World} {v : Value} {x : ByteArray} {l : List ByteArray} (h : Rd w v (x :: l)) : ∃ b o c, v = .slice (some ⟨b, o, none⟩) (l.length + 1) c ∧ l.length + 1 ≤ c ∧ c ≤ maxLen ∧ w.cell? ⟨b, o, none⟩ = some (.string x) ∧ Rd w (.slice (if c = 1 then some ⟨b, o, none⟩ else some ⟨b, o + 1, none⟩) l.length (c - 1)) l := by
  obtain ⟨a, c, rfl, hc, hm, hz, h⟩ := h
  rcases h with h | ⟨b, o, rfl, h⟩
  · cases h
  · refine ⟨b, o, c, rfl, by simpa using hc, hm, by simpa using h 0 (by simp), ?_⟩
    by_cases c1 : c = 1
    · subst c1
      have hl : l = [] := List.length_eq_zero_iff.1 (by have : (x :: l).length = l.length + 1 := rfl; omega)
      subst hl
      exact ⟨_, _, rfl, by simp, by unfold maxLen; omega, (fun h => by simp at h), Or.inl rfl⟩
    · rw [if_neg c1]
      refine ⟨_, _, rfl, by simp at hc; omega, by omega, (fun h => by cases h), Or.inr ⟨b, o + 1, rfl, fun j hj => ?_⟩⟩
      have := h (j + 1) (by simp; omega)
      rw [show o + 1 + j = o + (j + 1) by omega, this]
      simp [List.getD]

theorem rdL_one {w : World} {va : Value} {A : List ByteArray} (h : Rd w va A) : RdL (w.alloc (.cells #[va] 58)) (.slice (some ⟨w.heap.size, 0, none⟩) 1 1) [A] := by
  refine ⟨_, 1, rfl, by simp, by unfold maxLen; omega, Or.inr ⟨w.heap.size, 0, rfl, fun i hi => ?_⟩⟩
  have : i = 0 := by simp at hi; omega
  subst this
  exact ⟨va, by simp, by simpa using h.below ((Below.refl w.heap.size w).alloc (Nat.le_refl _) _)⟩

theorem below_alloc (w : World) (o : Obj) : Below w.heap.size w (w.alloc o) := (Below.refl w.heap.size w).alloc (Nat.le_refl _) o

theorem cur_rd {w0 w : World} {v : Value} {l : List ByteArray} (h : Cur w0 w v l) : Rd w v l := rd_own h.2

theorem cur_base {w w2 wr : World} {v : Value} {l : List ByteArray} (hb : Below w.heap.size w w2) (h : Cur w2 wr v l) : Cur w wr v l := by
  refine ⟨hb.trans (h.1.mono hb.size), h.2.1, h.2.2.imp id ?_⟩
  rintro ⟨g, cap, cur, rfl, h1, h2⟩
  exact ⟨g, cap, cur, rfl, Nat.le_trans hb.size h1, h2⟩
theorem filter_none (l : List ByteArray) : l.filter (fun z => memD z (([] : List ByteArray))) = [] := List.filter_eq_nil_iff.2 (by simp)

/-- The loop of Common, between two rounds. -/
def Mid (w2 wr : World) (va vb vc : Value) (A B C F : List ByteArray) : Prop :=
  Rd w2 va A ∧ Rd w2 vb B ∧ A.Pairwise ltS ∧ B.Pairwise ltS ∧ Cur w2 wr vc C ∧ C ++ A.filter (fun z => memD z (B)) = F ∧ A.length ≤ 4194304 ∧ C.length + A.length ≤ 4194304

set_option maxRecDepth 100000 in
set_option maxHeartbeats 2000000 in
theorem common_core (va vb : Value) (A B : List ByteArray) (w : World) (hA : Rd w va A) (hB : Rd w vb B) (hbA : A.length ≤ 4194304) (hbB : B.length ≤ 4194304) (F : List ByteArray) (hF : (mergedS A).filter (fun z => memD z (mergedS B)) = F) :
    Calls Tryz.prog 180 #[va, vb] w fun e w' => ∃ v', e = .returned v' ∧ Cur w w' v' F := by
  have HF0 := hide hF
  clear hF
  obtain ⟨i0, hi0, hz0, hz1, hz2⟩ := info_parts Tryz.info9
  have MA := hide (merge_any (rdL_one hA) (by simpa using hbA))
  have HA := hide hA
  have HB := hide hB
  obtain ⟨aa, ca, rfl, _, _⟩ := rd_len hA
  obtain ⟨ab, cb, rfl, _, _⟩ := rd_len hB
  clear hA hB
  go_enter Tryz.func180, Tryz.ntmps180
  go_wp2_with fail
  refine MA.out.mono ?_
  rintro e w1 ⟨v1, rfl, hc1⟩
  have b1 : Below w.heap.size w w1 := (below_alloc w _).trans (hc1.1.mono (below_alloc w _).size)
  have MB := hide (merge_any (rdL_one (HB.out.below b1)) (by simpa using hbB))
  have HC1 := hide hc1
  have HB1 := hide b1
  clear hc1 b1 MA
  go_wp2_with fail
  refine MB.out.mono ?_
  rintro e w2 ⟨v2, rfl, hc2⟩
  have b2 : Below w1.heap.size w1 w2 := (below_alloc w1 _).trans (hc2.1.mono (below_alloc w1 _).size)
  have R1 := hide ((cur_rd HC1.out).below b2)
  have R2 := hide (cur_rd hc2)
  have B2 := hide (HB1.out.trans (b2.mono HB1.out.size))
  clear hc2 b2 MB
  have UA := mergedS_up A
  have UB := mergedS_up B
  have LA := mergedS_len A
  simp only [List.flatten_cons, List.flatten_nil, List.append_nil] at R1 R2
  have M0 : Hid (Mid w2 w2 v1 v2 (.slice none 0 0) (mergedS A) (mergedS B) [] F) := ⟨R1.out, R2.out, UA.1, UB.1, ⟨Below.refl _ _, World.ownsRow_nil _ _ _ _⟩, by simpa using HF0.out, by omega, by simp; omega⟩
  clear UA UB LA HF0 R1 R2 HC1 HB1 HA HB
  go_wp2_with fail
  go_loopg [0, 1, 5] ((mergedS A).length + (mergedS B).length) (fun k x y z wr => ∃ A B C : List ByteArray, A.length + B.length = k ∧ Mid w2 wr x y z A B C F)
  case atStart => exact ⟨_, _, _, rfl, M0.out⟩
  case round =>
    obtain ⟨A', B', C', hk, hR1, hR2, hU1, hU2, hcur, hF, hl1, hl2⟩ := hrel
    have HK := hide hk
    have HF := hide hF
    have HCUR := hide hcur
    clear hk hF hcur M0
    cases A' with
    | nil =>
      obtain ⟨a1, c1, rfl, _, _⟩ := rd_len hR1
      clear hR1 hR2 hU1 hU2
      simp only [List.length_nil]
      go_wp2
      go_ret
      exact ⟨_, rfl, by rw [← HF.out]; simpa using cur_base B2.out HCUR.out⟩
    | cons x As =>
      obtain ⟨ba, oa, ca, rfl, hca, hcma, cx, hRA⟩ := rd_cons hR1
      have kx : wr.cell? ⟨ba, oa, none⟩ = some (.string x) := (HCUR.out.1.cell (p := ⟨ba, oa, none⟩) (World.block_lt_of_cell? _ _ cx)).trans cx
      have px : (0 : Int) < (As.length : Int) + 1 := by omega
      cases B' with
      | nil =>
        obtain ⟨a1, c1, rfl, _, _⟩ := rd_len hR2
        clear hR1 hR2 hU1 hU2 cx hRA
        simp only [List.length_nil]
        go_wp2
        go_ret
        exact ⟨_, rfl, by rw [← HF.out, filter_none, List.append_nil]; exact cur_base B2.out HCUR.out⟩
      | cons y Bs =>
        obtain ⟨bb, ob, cb, rfl, hcb, hcmb, cy, hRB⟩ := rd_cons hR2
        have ky : wr.cell? ⟨bb, ob, none⟩ = some (.string y) := (HCUR.out.1.cell (p := ⟨bb, ob, none⟩) (World.block_lt_of_cell? _ _ cy)).trans cy
        have py : (0 : Int) < (Bs.length : Int) + 1 := by omega
        have HRA := hide hRA
        have HRB := hide hRB
        have HR1 := hide hR1
        have HR2 := hide hR2
        have HU1 := hide hU1
        have HU2 := hide hU2
        unfold maxLen at hcma hcmb
        clear hRA hRB hR1 hR2 hU1 hU2 cx cy
        rcases sordS.tri x y with c | c | c
        · by_cases c1 : ca = 1
          · go_wp2_with fail
            go_quiet ((go_at_call 236; exact Calls.quiet_of_same (cmp_lt _ _ _ c)))
            go_wp2
            go_roundg (As.length + (Bs.length + 1))
            case measure => have := HK.out; simp at this ⊢; omega
            case rel => exact ⟨As, y :: Bs, C', by simp, by simpa [c1] using HRA.out, HR2.out, (List.pairwise_cons.1 HU1.out).2, HU2.out, cur_drewN HCUR.out, by rw [← comm_lt sordS HU2.out c]; exact HF.out, by simp at hl1; omega, by simp at hl2; omega⟩
          · go_wp2_with fail
            go_quiet ((go_at_call 236; exact Calls.quiet_of_same (cmp_lt _ _ _ c)))
            go_wp2
            go_roundg (As.length + (Bs.length + 1))
            case measure => have := HK.out; simp at this ⊢; omega
            case rel => exact ⟨As, y :: Bs, C', by simp, by simpa [c1] using HRA.out, HR2.out, (List.pairwise_cons.1 HU1.out).2, HU2.out, cur_drewN HCUR.out, by rw [← comm_lt sordS HU2.out c]; exact HF.out, by simp at hl1; omega, by simp at hl2; omega⟩
        · subst c
          by_cases c1 : ca = 1
          all_goals by_cases c2 : cb = 1
          all_goals
            go_wp2_with fail
            go_quiet ((go_at_call 236; exact Calls.quiet_of_same (cmp_eq _ _)))
            go_wp2_with (at_builtin; refine wpList_append_own _ rfl _ _ 58 rfl w2.heap.size 9 i0 (.string ByteArray.empty) 1 16 Tryz.underlying58 hi0 hz0 hz1 hz2 rfl (by decide) _ _ _ rfl ((cur_drewN (n := nq) HCUR.out).2.alloc _) ⟨wr.heap.size, 0, none⟩ 1 1 [.string x] rfl rfl (cell_one_new _ _ _) (by intro u hu; simp at hu; subst hu; rfl) (by unfold maxLen; simp at hl2; omega) (by simp at hl2; omega) (by have := (cur_drewN (n := nq) HCUR.out).1.size; simp at this ⊢; omega) ?_; intro v3 w3 hown3 hgrow3 _; have HC3 := hide (cur_append (cur_drewN (n := nq) HCUR.out) hown3 hgrow3); clear hown3 hgrow3)
            go_quiet (fail)
            go_wp2
            go_roundg (As.length + Bs.length)
            case measure => have := HK.out; simp at this ⊢; omega
            case rel => exact ⟨As, Bs, C' ++ [x], by simp, by simpa [c1] using HRA.out, by simpa [c2] using HRB.out, (List.pairwise_cons.1 HU1.out).2, (List.pairwise_cons.1 HU2.out).2, cur_drewN HC3.out, by rw [← HF.out, comm_eq sordS HU1.out]; simp, by simp at hl1; omega, by simp at hl2 ⊢; omega⟩
        · by_cases c1 : cb = 1
          · go_wp2_with fail
            go_quiet ((go_at_call 236; exact Calls.quiet_of_same (cmp_gt _ _ _ c)))
            go_wp2
            go_roundg ((As.length + 1) + Bs.length)
            case measure => have := HK.out; simp at this ⊢; omega
            case rel => exact ⟨x :: As, Bs, C', by simp, HR1.out, by simpa [c1] using HRB.out, HU1.out, (List.pairwise_cons.1 HU2.out).2, cur_drewN HCUR.out, by rw [← comm_gt sordS HU1.out c]; exact HF.out, hl1, hl2⟩
          · go_wp2_with fail
            go_quiet ((go_at_call 236; exact Calls.quiet_of_same (cmp_gt _ _ _ c)))
            go_wp2
            go_roundg ((As.length + 1) + Bs.length)
            case measure => have := HK.out; simp at this ⊢; omega
            case rel => exact ⟨x :: As, Bs, C', by simp, HR1.out, by simpa [c1] using HRB.out, HU1.out, (List.pairwise_cons.1 HU2.out).2, cur_drewN HCUR.out, by rw [← comm_gt sordS HU1.out c]; exact HF.out, hl1, hl2⟩
end Go.Proofs.YtkncboinfcnklaaGreatDoor.Str
