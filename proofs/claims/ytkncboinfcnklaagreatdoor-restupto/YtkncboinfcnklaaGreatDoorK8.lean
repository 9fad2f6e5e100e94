import Derived.Test.YtkncboinfcnklaaGreatDoorKd
import Derived.Test.YtkncboinfcnklaaGreatDoorKb
namespace Go.Proofs.YtkncboinfcnklaaGreatDoor
open Go.RowKit Go.Deep Go.Shelf Go.Proofs.YtkncboinfcnklaaGreatDoor.Mth

/-- Which entries a query tells. -/
def gq (L : Lg) (x : ByteArray) (lo hi : Int) (e : Ent) : Bool := memD x (wd e.text) && (decide (yng L lo ≤ e.time) && decide (e.time ≤ hi))
theorem qFnd_eq (x : ByteArray) (lo hi : Int) : ∀ ps : List (List Ent), qFnd x lo hi ps = ps.flatten.filter (fun e => memD x (wd e.text) && (decide (lo ≤ e.time) && decide (e.time ≤ hi)))
  | [] => rfl
  | es :: ps => by
    have := qFnd_eq x lo hi ps
    unfold qFnd at this ⊢
    rw [List.flatMap_cons, this, List.flatten_cons, List.filter_append]
    rfl
theorem Inv.query {L : Lg} {all : List Ent} (h : Inv L all) (x : ByteArray) (lo hi : Int) : qFnd x (yng L lo) hi (segs L.lev) ++ fnd L.mem x (yng L lo) hi = tld (gq L x lo hi) all 0 (all.length + 1) := by
  rw [qFnd_eq]
  have e1 : (segs L.lev).flatten.filter (fun e => memD x (wd e.text) && (decide (yng L lo ≤ e.time) && decide (e.time ≤ hi))) ++ fnd L.mem x (yng L lo) hi = (sto L).filter (gq L x lo hi) := by
    unfold sto
    rw [List.filter_append]
    rfl
  rw [e1, h.filter (gq L x lo hi) (fun e he hq => ?_)]
  · unfold tld
    rw [List.drop_zero, List.take_of_length_le]
    exact Nat.le_succ_of_le (List.length_filter_le _ _)
  · by_cases hin : e ∈ sto L
    · exact hin
    · have := (h.gone e he hin).1
      unfold gq yng at hq
      simp only [Bool.and_eq_true, decide_eq_true_eq] at hq
      omega
theorem Inv.opn {L : Lg} {all : List Ent} (h : Inv L all) (x : ByteArray) (lo hi : Int) : qOpn x lo hi (segs L.lev) ≤ all.length := by
  have h1 : qOpn x lo hi (segs L.lev) ≤ (segs L.lev).length := List.length_filter_le _ _
  have h2 := flat_ge h.ne
  have h3 := h.stoLen
  omega
theorem wd_self (x : ByteArray) (h : cut [] (tb x) = [x.data.toList]) : wd x = [x] := by
  refine (wd_of (List.pairwise_singleton _ _) (fun y => ?_)).symm
  rw [h]
  simp only [List.map_cons, List.map_nil, List.mem_singleton, ofL_of]
theorem wds_isWd {x : ByteArray} (h : x ∈ Kp.wds) : isWd x = true := by
  simp only [Kp.wds, List.mem_cons, List.not_mem_nil, or_false] at h
  unfold isWd
  rcases h with rfl | rfl | rfl | rfl | rfl | rfl <;> exact decide_eq_true ⟨by decide, wd_self _ (by decide)⟩
end Go.Proofs.YtkncboinfcnklaaGreatDoor
