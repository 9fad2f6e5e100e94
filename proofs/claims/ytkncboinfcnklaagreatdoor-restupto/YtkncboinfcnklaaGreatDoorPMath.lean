import Derived.Test.YtkncboinfcnklaaGreatDoorMath4
import Derived.Lib.Fields
import Derived.Laws.BytesArg
import Derived.RowKit
namespace Go.Proofs.YtkncboinfcnklaaGreatDoor.Mth
open Go.Lib Go.RowKit

/-- An entry. -/
structure Ent where
  seq : Int
  time : Int
  text : ByteArray

theorem Ent.ext' {a b : Ent} (h1 : a.seq = b.seq) (h2 : a.time = b.time) (h3 : a.text = b.text) : a = b := by
  cases a; cases b; simp at h1 h2 h3; subst h1 h2 h3; rfl

/-- The bytes of a text, as numbers. -/
def tb (s : ByteArray) : List Int := s.data.toList.map (fun u => (u.toNat : Int))

/-- A number in so many bytes, the highest first. -/
def num (n : Int) : Nat → List Int
  | 0 => []
  | k + 1 => (n / 256 ^ k % 256) :: num n k

def Bts (l : List Int) : Prop := ∀ x ∈ l, 0 ≤ x ∧ x < 256

theorem bts_nil : Bts [] := by intro x h; cases h
theorem bts_append {a b : List Int} (ha : Bts a) (hb : Bts b) : Bts (a ++ b) := by
  intro x h
  rcases List.mem_append.1 h with h | h
  · exact ha x h
  · exact hb x h
theorem bts_one {x : Int} (h0 : 0 ≤ x) (h1 : x < 256) : Bts [x] := by intro y h; simp at h; subst h; exact ⟨h0, h1⟩

theorem num_len (n : Int) : ∀ k, (num n k).length = k
  | 0 => rfl
  | k + 1 => by simp [num, num_len n k]

theorem num_bts (n : Int) : ∀ k, Bts (num n k)
  | 0 => bts_nil
  | k + 1 => by
    intro x h
    rcases List.mem_cons.1 h with h | h
    · subst h; constructor <;> omega
    · exact num_bts n k x h

theorem tb_bts (s : ByteArray) : Bts (tb s) := by
  intro x h
  obtain ⟨u, _, rfl⟩ := List.mem_map.1 h
  have := u.toNat_lt
  constructor <;> omega

theorem tb_len (s : ByteArray) : (tb s).length = s.size := by simp [tb]

theorem of_tb (s : ByteArray) : strOfNums (tb s) = s := by
  apply bytes_ext
  unfold strOfNums tb
  simp only [List.map_map]
  show List.map _ s.data.toList = s.data.toList
  conv => rhs; rw [← List.map_id s.data.toList]
  apply List.map_congr_left
  intro u _
  simp

theorem tb_of {l : List Int} (h : Bts l) : tb (strOfNums l) = l := by
  unfold tb strOfNums
  simp only [List.map_map]
  conv => rhs; rw [← List.map_id l]
  apply List.map_congr_left
  intro x hx
  have := h x hx
  simp
  omega

/-! ### the sum -/
def smStep (p : Int × Int) (x : Int) : Int × Int := ((p.1 + x) % 65521, (p.2 + (p.1 + x) % 65521) % 65521)
def sm (l : List Int) : Int × Int := l.foldl smStep (1, 0)
def sumv (l : List Int) : Int := 65536 * (sm l).2 + (sm l).1

theorem sm_snoc (l : List Int) (x : Int) : sm (l ++ [x]) = smStep (sm l) x := by simp [sm, List.foldl_append]

theorem sm_go (l : List Int) : ∀ p : Int × Int, (0 ≤ p.1 ∧ p.1 < 65521) → (0 ≤ p.2 ∧ p.2 < 65521) → (0 ≤ (l.foldl smStep p).1 ∧ (l.foldl smStep p).1 < 65521) ∧ (0 ≤ (l.foldl smStep p).2 ∧ (l.foldl smStep p).2 < 65521) ∧ (l.foldl smStep p).1 = (p.1 + l.sum) % 65521 := by
  induction l with
  | nil => intro p h1 h2; simp; refine ⟨h1, h2, ?_⟩; omega
  | cons x l ih =>
    intro p h1 h2
    have := ih (smStep p x) (by unfold smStep; constructor <;> simp <;> omega) (by unfold smStep; constructor <;> simp <;> omega)
    refine ⟨this.1, this.2.1, ?_⟩
    rw [List.foldl_cons, this.2.2, List.sum_cons]
    simp only [smStep]
    omega

theorem sm_bd (l : List Int) : (0 ≤ (sm l).1 ∧ (sm l).1 < 65521) ∧ (0 ≤ (sm l).2 ∧ (sm l).2 < 65521) ∧ (sm l).1 = (1 + l.sum) % 65521 :=
  sm_go l (1, 0) (by constructor <;> simp) (by constructor <;> simp)

theorem sumv_bd (l : List Int) : 0 ≤ sumv l ∧ sumv l < 4294967296 := by
  have := sm_bd l
  unfold sumv
  omega

theorem sum_set (l : List Int) (i : Nat) (v : Int) (h : i < l.length) : (l.set i v).sum = l.sum - l[i] + v := by
  induction l generalizing i with
  | nil => simp at h
  | cons x l ih =>
    cases i with
    | zero => simp; omega
    | succ i =>
      simp at h
      simp [ih i h]
      omega

/-- One byte that is another turns the sum. -/
theorem sumv_set (l : List Int) (hl : Bts l) (i : Nat) (v : Int) (h : i < l.length) (h0 : 0 ≤ v) (h1 : v < 256) (hv : v ≠ l[i]) : sumv (l.set i v) ≠ sumv l := by
  intro e
  have a := sm_bd l
  have b := sm_bd (l.set i v)
  have hs := sum_set l i v h
  have hx := hl l[i] (List.getElem_mem h)
  have e1 : (sm (l.set i v)).1 = (sm l).1 := by unfold sumv at e; omega
  rw [b.2.2, a.2.2, hs] at e1
  omega

/-! ### numbers are read again -/
theorem num_inj {n m : Int} (hn : 0 ≤ n) (hm : 0 ≤ m) (hn1 : n < 4294967296) (hm1 : m < 4294967296) (h : num n 4 = num m 4) : n = m := by
  simp [num] at h
  omega

def rdNum (l : List Int) : Int := l.foldl (fun n x => wrap64 (n * 256 + x)) 0

theorem wrap_id (x : Int) (a : 0 ≤ x) (b : x < 9223372036854775808) : wrap64 x = x := by unfold wrap64; omega

theorem rdNum8 (n : Int) (h0 : 0 ≤ n) (h1 : n ≤ 1000000000000) : rdNum (num n 8) = n := by
  simp only [rdNum, num, List.foldl_cons, List.foldl_nil, Int.reducePow]
  rw [show 0 * 256 + n / 72057594037927936 % 256 = n / 72057594037927936 from by omega, wrap_id (n / 72057594037927936) (by omega) (by omega)]
  rw [show n / 72057594037927936 * 256 + n / 281474976710656 % 256 = n / 281474976710656 from by omega, wrap_id (n / 281474976710656) (by omega) (by omega)]
  rw [show n / 281474976710656 * 256 + n / 1099511627776 % 256 = n / 1099511627776 from by omega, wrap_id (n / 1099511627776) (by omega) (by omega)]
  rw [show n / 1099511627776 * 256 + n / 4294967296 % 256 = n / 4294967296 from by omega, wrap_id (n / 4294967296) (by omega) (by omega)]
  rw [show n / 4294967296 * 256 + n / 16777216 % 256 = n / 16777216 from by omega, wrap_id (n / 16777216) (by omega) (by omega)]
  rw [show n / 16777216 * 256 + n / 65536 % 256 = n / 65536 from by omega, wrap_id (n / 65536) (by omega) (by omega)]
  rw [show n / 65536 * 256 + n / 256 % 256 = n / 256 from by omega, wrap_id (n / 256) (by omega) (by omega)]
  rw [show n / 256 * 256 + n / 1 % 256 = n / 1 from by omega, wrap_id (n / 1) (by omega) (by omega)]
  omega

theorem rdNum2 (n : Int) (h0 : 0 ≤ n) (h1 : n ≤ 64) : rdNum (num n 2) = n := by
  simp only [rdNum, num, List.foldl_cons, List.foldl_nil, Int.reducePow]
  rw [show 0 * 256 + n / 256 % 256 = n / 256 from by omega, wrap_id (n / 256) (by omega) (by omega)]
  rw [show n / 256 * 256 + n / 1 % 256 = n / 1 from by omega, wrap_id (n / 1) (by omega) (by omega)]
  omega

theorem rdNum1 (n : Int) (h0 : 0 ≤ n) (h1 : n < 256) : rdNum [n] = n := by
  simp only [rdNum, List.foldl_cons, List.foldl_nil]
  rw [wrap_id _ (by omega) (by omega)]
  omega

/-! ### segments, their bytes -/
def isE (e : Ent) : Bool := decide (0 ≤ e.seq) && decide (e.seq ≤ 1000000000000) && decide (0 ≤ e.time) && decide (e.time ≤ 1000000000000) && decide (e.text.size ≤ 60)
def fol (e last : Ent) : Bool := decide (last.seq < e.seq) && decide (last.time ≤ e.time)
def e0 : Ent := ⟨0, 0, ByteArray.empty⟩
def okAt (l : List Ent) (i : Nat) : Bool := isE (l.getD i e0) && (decide (i = 0) || fol (l.getD i e0) (l.getD (i - 1) e0))
def Seg (l : List Ent) : Prop := 1 ≤ l.length ∧ l.length ≤ 64 ∧ ∀ i, i < l.length → okAt l i = true

def ent (e : Ent) : List Int := num e.seq 8 ++ (num e.time 8 ++ (((e.text.size : Int) % 256) :: tb e.text))
def hd (l : List Ent) : List Int := num l.length 2 ++ (l.map ent).flatten

theorem seg_ent {l : List Ent} (h : Seg l) : ∀ e ∈ l, isE e = true := by
  intro e he
  obtain ⟨i, hi, rfl⟩ := List.mem_iff_getElem.1 he
  have := h.2.2 i hi
  unfold okAt at this
  rw [Bool.and_eq_true] at this
  simpa [List.getD, hi] using this.1

/-! ### reading -/
def rdEnt (b : List Int) : Ent := ⟨rdNum (b.take 8), rdNum ((b.drop 8).take 8), strOfNums (((b.drop 16).drop 1).take (rdNum ((b.drop 16).take 1)).toNat)⟩
def rdRest (b : List Int) : List Int := ((b.drop 16).drop 1).drop (rdNum ((b.drop 16).take 1)).toNat
def rdEnts : Nat → List Int → List Ent
  | 0, _ => []
  | k + 1, b => rdEnt b :: rdEnts k (rdRest b)
def rdAll (b : List Int) : List Ent := rdEnts (min (rdNum (b.take 2)) 64).toNat (b.drop 2)

theorem rd_ent {e : Ent} (h : isE e = true) (z : List Int) : rdEnt (ent e ++ z) = e ∧ rdRest (ent e ++ z) = z := by
  unfold isE at h
  simp only [Bool.and_eq_true, decide_eq_true_iff] at h
  obtain ⟨⟨⟨⟨a, b⟩, c⟩, d⟩, f⟩ := h
  have h16 : (ent e ++ z).drop 16 = (((e.text.size : Int) % 256) :: tb e.text) ++ z := by
    unfold ent
    rw [← List.append_assoc, List.append_assoc (num e.seq 8 ++ num e.time 8)]
    exact List.drop_left' (by simp [num_len])
  have h1 : rdNum ([(e.text.size : Int) % 256]) = e.text.size := by rw [show (e.text.size : Int) % 256 = e.text.size from by omega]; exact rdNum1 _ (by omega) (by omega)
  have hn : rdNum (((ent e ++ z).drop 16).take 1) = e.text.size := by rw [h16]; simpa using h1
  have hd1 : ((ent e ++ z).drop 16).drop 1 = tb e.text ++ z := by rw [h16]; simp
  constructor
  · refine Ent.ext' ?_ ?_ ?_
    · show rdNum ((ent e ++ z).take 8) = e.seq
      rw [show (ent e ++ z).take 8 = num e.seq 8 from by unfold ent; rw [List.append_assoc]; exact List.take_left' (num_len _ _)]
      exact rdNum8 _ a b
    · show rdNum (((ent e ++ z).drop 8).take 8) = e.time
      rw [show (ent e ++ z).drop 8 = num e.time 8 ++ ((((e.text.size : Int) % 256) :: tb e.text) ++ z) from by unfold ent; rw [List.append_assoc, List.append_assoc]; exact List.drop_left' (num_len _ _), List.take_left' (num_len _ _)]
      exact rdNum8 _ c d
    · show strOfNums _ = e.text
      rw [hn, hd1]
      have : (tb e.text ++ z).take ((e.text.size : Int)).toNat = tb e.text := List.take_left' (by rw [tb_len]; omega)
      rw [this]
      exact of_tb _
  · show _ = z
    unfold rdRest
    rw [hn, hd1]
    exact List.drop_left' (by rw [tb_len]; omega)

theorem rd_ents : ∀ (l : List Ent) (z : List Int), (∀ e ∈ l, isE e = true) → rdEnts l.length ((l.map ent).flatten ++ z) = l
  | [], _, _ => rfl
  | e :: l, z, h => by
    have he := rd_ent (h e (by simp)) ((l.map ent).flatten ++ z)
    simp only [List.length_cons, rdEnts, List.map_cons, List.flatten_cons, List.append_assoc]
    rw [he.1, he.2, rd_ents l z (fun x hx => h x (by simp [hx]))]

/-- THE ENTRIES ARE READ AGAIN, whatever stands behind them. -/
theorem rd_hd {l : List Ent} (h : Seg l) (z : List Int) : rdAll (hd l ++ z) = l := by
  have h2 : (hd l ++ z).take 2 = num l.length 2 := by unfold hd; rw [List.append_assoc]; exact List.take_left' (num_len _ _)
  have h3 : (hd l ++ z).drop 2 = (l.map ent).flatten ++ z := by unfold hd; rw [List.append_assoc]; exact List.drop_left' (num_len _ _)
  unfold rdAll
  rw [h2, h3, rdNum2 _ (by omega) (by have := h.2.1; omega)]
  rw [show (min (l.length : Int) 64).toNat = l.length from by have := h.2.1; omega]
  exact rd_ents l z (seg_ent h)

/-! ### what a byte that is another makes -/
theorem pk_set {A B : List Int} {SA SB : Int} (hA : Bts A) (i : Nat) (v : Int) (h0 : 0 ≤ v) (h1 : v < 256) (hi : i < (A ++ num SA 4).length) (hv : v ≠ (A ++ num SA 4)[i]) (hSA : SA = sumv A) (hSB : SB = sumv B) (he : B ++ num SB 4 = (A ++ num SA 4).set i v) : False := by
  have hl : B.length = A.length := by
    have := congrArg List.length he
    simp [num_len] at this
    exact this
  by_cases c : i < A.length
  · rw [List.set_append_left _ _ c] at he
    obtain ⟨e1, e2⟩ := List.append_inj he (by simp [hl])
    have hs : SB = SA := num_inj (by rw [hSB]; exact (sumv_bd B).1) (by rw [hSA]; exact (sumv_bd A).1) (by rw [hSB]; exact (sumv_bd B).2) (by rw [hSA]; exact (sumv_bd A).2) e2
    rw [List.getElem_append_left c] at hv
    refine sumv_set A hA i v c h0 h1 hv ?_
    rw [← e1, ← hSB, hs, hSA]
  · rw [List.set_append_right _ _ (by omega)] at he
    obtain ⟨e1, e2⟩ := List.append_inj he hl
    have hs : SB = SA := by rw [hSB, hSA, e1]
    rw [hs] at e2
    have hk : i - A.length < (num SA 4).length := by simp [num_len] at hi ⊢; omega
    rw [List.getElem_append_right (by omega)] at hv
    apply hv
    have := congrArg (fun l : List Int => l[i - A.length]?) e2
    simp [hk] at this
    exact this.symm

end Go.Proofs.YtkncboinfcnklaaGreatDoor.Mth
