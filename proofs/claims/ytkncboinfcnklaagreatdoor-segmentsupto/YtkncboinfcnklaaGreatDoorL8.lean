import Derived.Test.YtkncboinfcnklaaGreatDoorL7
namespace Go.Proofs.YtkncboinfcnklaaGreatDoor
open Go.RowKit Go.Deep Go.Proofs.YtkncboinfcnklaaGreatDoor.Mth

theorem only_put {w wr : World} {g i : Nat} {u : Value} (h : w.grownBy wr (some g)) : w.grownBy (wr.setCell ⟨g, i, none⟩ u) (some g) :=
  ⟨h.os, h.tape, h.output, by have := h.size; simpa using this, fun k hk hne => by rw [set_other (fun e => hne (by rw [e]))]; exact h.block k hk hne⟩
theorem only_refl (w : World) (r : Option Nat) : w.grownBy w r := ⟨rfl, rfl, rfl, Nat.le_refl _, fun _ _ _ => rfl⟩

def wiped (cs : List Value) (u : Value) (k : Nat) : List Value := List.replicate k u ++ cs.drop k
theorem wiped_set {cs : List Value} {u : Value} {k : Nat} (h : k < cs.length) : (wiped cs u k).set k u = wiped cs u (k + 1) := by
  unfold wiped
  rw [List.set_append_right _ _ (by simp), List.length_replicate, Nat.sub_self, List.drop_eq_getElem_cons h, List.set_cons_zero, List.replicate_succ', List.append_assoc]
  rfl
theorem wiped_at {cs : List Value} {u : Value} {k j : Nat} (h : k ≤ j) : (wiped cs u k)[j]? = cs[j]? := by
  unfold wiped
  rw [List.getElem?_append_right (by simpa using h), List.length_replicate, List.getElem?_drop]
  congr 1
  omega
theorem lent_head (s : ByteArray) (j : Nat) (h : j < s.size) : (lent s 3)[j]? = some (.int .u8 ((tb s).getD j 0)) := by
  unfold lent
  rw [List.getElem?_append_left (by rw [List.length_map, tb_len]; exact h), List.getElem?_map, List.getElem?_eq_getElem (by rw [tb_len]; exact h)]
  simp [List.getD, tb_len, h]
theorem lent_tail (s : ByteArray) (j : Nat) (h : s.size ≤ j) (h2 : j < s.size + 3) : (lent s 3)[j]? = some (.int .u8 77) := by
  unfold lent
  rw [List.getElem?_append_right (by rw [List.length_map, tb_len]; exact h), List.length_map, tb_len, Nat.sub_self, List.replicate_zero, List.append_nil, List.getElem?_replicate, if_pos (by omega)]

theorem rdB_lent {w : World} {g : Nat} {s : ByteArray} (h : Blk w g 5 (lent s 3)) (hs : s.size ≤ 1048576) : RdB w (.slice (some ⟨g, 0, none⟩) s.size (s.size + 3)) (tb s) := by
  refine ⟨_, s.size + 3, by rw [tb_len], by rw [tb_len]; omega, by unfold maxLen; omega, Or.inr ⟨g, 0, rfl, fun j hj => ?_⟩⟩
  rw [tb_len] at hj
  rw [Nat.zero_add]
  exact (h.at (lent_head s j hj)).1

set_option maxRecDepth 100000 in
set_option maxHeartbeats 1000000 in
theorem wholeBytes_any (s : ByteArray) (g : Nat) (w : World) (hs : s.size ≤ 1048576) (h : Blk w g 5 (lent s 3)) :
    Calls Tryz.prog 122 #[.slice (some ⟨g, 0, none⟩) s.size (s.size + 3), .string s] w fun e w' => e = .returned (.bool true) ∧ w.grownBy w' (some g) := by
  have HBL := hide h
  have hcv := conv_any (rdB_lent h hs)
  rw [of_tb] at hcv
  have heq : (s.toList == s.toList) = true := by simp
  have hlen := lent_len s 3 (by omega)
  have HLL := hide hlen
  clear h hlen
  go_enter Tryz.func122, Tryz.ntmps122
  go_wp2_with fail
  clear hcv heq
  go_loopw [7, 8] (fun ok i wr => ∃ k : Nat, k ≤ s.size + 3 ∧ i = .int .i64 k ∧ ok = .bool true ∧ w.grownBy wr (some g) ∧ Blk wr g 5 (wiped (lent s 3) (.int .u8 200) k)) (fun _ i _ => s.size + 3 - (intOf i).toNat)
  case atStart => exact ⟨0, by omega, rfl, rfl, only_refl _ _, by simpa [wiped] using HBL.out⟩
  case round =>
    obtain ⟨k, hk, rfl, rfl, hg, hbl⟩ := hrel
    have HG := hide hg
    have HW := hide hbl
    clear hg hbl
    by_cases hlt : k < s.size + 3
    · have HS := hide (wiped_set (cs := lent s 3) (u := .int .u8 200) (k := k) (by rw [HLL.out]; exact hlt))
      by_cases hin : k < s.size
      · obtain ⟨hcell, hfr⟩ := HW.out.at ((wiped_at (Nat.le_refl k)).trans (lent_head s k hin))
        generalize (tb s).getD k 0 = y at *
        go_wp2
        go_roundw
        case rel => exact ⟨k + 1, by omega, by go_num, rfl, only_put HG.out, by rw [← HS.out]; exact HW.out.put k _⟩
        case measure => simp [intOf]; omega
      · obtain ⟨hcell, hfr⟩ := HW.out.at ((wiped_at (Nat.le_refl k)).trans (lent_tail s k (by omega) hlt))
        go_wp2
        go_roundw
        case rel => exact ⟨k + 1, by omega, by go_num, rfl, only_put HG.out, by rw [← HS.out]; exact HW.out.put k _⟩
        case measure => simp [intOf]; omega
    · go_wp2
      go_ret
      exact ⟨rfl, HG.out⟩

/-! ### entries -/
theorem run_copy_three {P : Program} (w : World) (dT sT ty elem : TypeId) (g dLen dCap : Nat) (a : Addr) (sLen sCap : Nat) (cur : Array Value) (t : TypeId) (cs : List Value)
    (hu : P.underlying dT = some (.slice elem)) (i : TypeInfo) (hq : P.info? elem = some i) (hi : i.size = 3)
    (hg : w.heap[g]? = some (.cells cur t (0, 0))) (hle : sLen ≤ dLen) (hn : cs.length = sLen * 3)
    (hsrc : ∀ j v, cs[j]? = some v → w.cell? (a.add j) = some v) (hfit : cs.length ≤ cur.size) (h1 : ∀ v ∈ cs, v.oneCell' = true) :
    (Builtin.copy_ #[dT, sT] ty #[.slice (some ⟨g, 0, none⟩) dLen dCap, .slice (some a) sLen sCap]).run P w =
      .ok (goInt sLen) (w.setRow g (cs ++ cur.toList.drop cs.length).toArray) := by
  have hl := run_loadCells_list (P := P) w a cs hsrc
  have hst := run_storeCells_at P g 0 t cs 0 cur w hg (by simpa using hfit) h1
  have hmin : Nat.min sLen dLen = sLen := Nat.min_eq_left hle
  simp only [Nat.zero_add, List.take_zero, List.nil_append] at hst
  simp [Builtin.copy_, run_underlying hu, Builtin.lenOf, Builtin.firstCells, sizeOf, typeInfo, hq, hi, hmin, ← hn, hl, hst]

def e77 : List Value := [.int .i64 77, .int .i64 0, .string ⟨#[]⟩]
def e5 : List Value := [.int .i64 (-5), .int .i64 0, .string ⟨#[]⟩]
def lentE (l : List Ent) (cs0 : List Value) (k : Nat) : List Value := (l.flatMap eC ++ (List.replicate k e77).flatten) ++ cs0.drop (l.length * 3 + k * 3)

theorem flat_rep (k : Nat) (x y z : Value) : (List.replicate k [x, y, z]).flatten.length = k * 3 := by
  induction k with
  | zero => rfl
  | succ k ih => rw [List.replicate_succ, List.flatten_cons, List.length_append, ih]; simp; omega
theorem eC_len (l : List Ent) : (l.flatMap eC).length = l.length * 3 := by
  induction l with
  | nil => rfl
  | cons e l ih => rw [List.flatMap_cons, List.length_append, ih]; simp [eC]; omega
theorem rep_snoc (k : Nat) (L : List Value) : (List.replicate (k + 1) L).flatten = (List.replicate k L).flatten ++ L := by
  rw [List.replicate_succ', List.flatten_append]
  simp

theorem set3 (A R : List Value) (x y z a b c : Value) (p : Nat) (hp : A.length = p) : (((A ++ x :: y :: z :: R).set p a).set (p + 1) b).set (p + 2) c = A ++ [a, b, c] ++ R := by
  subst hp
  rw [List.set_append_right _ _ (Nat.le_refl _), Nat.sub_self, List.set_cons_zero, List.set_append_right _ _ (by omega), show A.length + 1 - A.length = 1 by omega, List.set_cons_succ, List.set_cons_zero, List.set_append_right _ _ (by omega), show A.length + 2 - A.length = 2 by omega, List.set_cons_succ, List.set_cons_succ, List.set_cons_zero]
  simp
theorem drop3 {cs : List Value} {q : Nat} (h : q + 3 ≤ cs.length) : ∃ x y z, cs.drop q = x :: y :: z :: cs.drop (q + 3) := by
  refine ⟨cs[q], cs[q + 1], cs[q + 2], ?_⟩
  rw [List.drop_eq_getElem_cons (by omega), List.drop_eq_getElem_cons (by omega), List.drop_eq_getElem_cons (by omega)]

theorem lentE_set {l : List Ent} {cs0 : List Value} {k : Nat} (h : cs0.length = (l.length + 3) * 3) (hk : k < 3) : (((lentE l cs0 k).set ((l.length + k) * 3) (.int .i64 77)).set ((l.length + k) * 3 + 1) (.int .i64 0)).set ((l.length + k) * 3 + 2) (.string ⟨#[]⟩) = lentE l cs0 (k + 1) := by
  unfold lentE
  obtain ⟨x, y, z, hd⟩ := drop3 (cs := cs0) (q := l.length * 3 + k * 3) (by omega)
  rw [hd, set3 _ _ _ _ _ _ _ _ _ (by rw [List.length_append, eC_len, e77, flat_rep]; omega), rep_snoc, show l.length * 3 + (k + 1) * 3 = l.length * 3 + k * 3 + 3 by omega]
  simp [e77]
theorem lentE_len {l : List Ent} {cs0 : List Value} {k : Nat} (h : cs0.length = (l.length + 3) * 3) (hk : k ≤ 3) : (lentE l cs0 k).length = (l.length + 3) * 3 := by
  unfold lentE
  rw [List.length_append, List.length_append, eC_len, List.length_drop, e77, flat_rep, h]
  omega
end Go.Proofs.YtkncboinfcnklaaGreatDoor
