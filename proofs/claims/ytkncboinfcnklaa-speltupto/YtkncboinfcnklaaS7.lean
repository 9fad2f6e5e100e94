import Derived.Test.YtkncboinfcnklaaS6
namespace Go.Proofs.Ytkncboinfcnklaa.Str
open Go.RowKit Go.Deep Go.Proofs.Ytkncboinfcnklaa.Mth

theorem inT_set {α : Type} {enc : α → Value} (henc : ∀ a p, enc a ≠ .pointer p) {w : World} {sb : Nat} {u : Option Addr} (hc : w.cell? ⟨sb, 0, none⟩ = some (.pointer u)) (v : Value) : ∀ {T : BT α}, InT enc w T → InT enc (w.setCell ⟨sb, 0, none⟩ v) T
  | .nil, _ => trivial
  | .node b o a l r, ⟨h0, h1, h2, h3, h4, hl, hr⟩ => by
    have hne : b ≠ sb := by
      rintro rfl
      rw [hc] at h1
      injection h1 with h1
      exact henc a u h1.symm
    have hk : ∀ j, (w.setCell ⟨sb, 0, none⟩ v).cell? ⟨b, j, none⟩ = w.cell? ⟨b, j, none⟩ := fun j => World.cell?_of_block (w := w) (a := ⟨b, j, none⟩) (Below.heap_setCell w ⟨sb, 0, none⟩ v b hne)
    exact ⟨h0, (hk _).trans h1, (hk _).trans h2, (hk _).trans h3, (hk _).trans h4, inT_set henc hc v hl, inT_set henc hc v hr⟩

theorem eS_ne (a : ByteArray) (p : Option Addr) : eS a ≠ .pointer p := by intro h; cases h

/-- What Add leaves. -/
def Added (w : World) (sb : Nat) (l : List ByteArray) (x : ByteArray) (e : Ending) (w' : World) : Prop :=
  e = .returned (.bool (!memD x (l))) ∧ ∃ T : BT ByteArray, SetAt w' sb T ∧ w.grownBy w' (some sb) ∧ (x ∈ l → lst T = l) ∧ (¬ x ∈ l → Put ltS l x (lst T))

set_option maxHeartbeats 400000 in
theorem add_old (sb : Nat) (T : BT ByteArray) (x : ByteArray) (w : World) (h : SetAt w sb T) (hx : x ∈ lst T) :
    Calls Try.prog 17 #[.pointer (some ⟨sb, 0, none⟩), .string x] w (Added w sb (lst T) x) := by
  have hs := has_any sb T x w h
  rw [show memD x (lst T) = true from by simp [hx]] at hs
  have HS := hide hs
  have H := hide h
  have HX := hide hx
  clear hs h hx
  go_enter Try.func17, Try.ntmps17
  go_wp2_with (go_at_call 18; refine HS.out.mono ?_; rintro e w' ⟨rfl, rfl⟩)
  go_ret
  exact ⟨by simp [HX.out], T, H.out, ⟨rfl, rfl, rfl, Nat.le_refl _, fun _ _ _ => rfl⟩, fun _ => rfl, fun hn => absurd HX.out hn⟩

set_option maxHeartbeats 400000 in
theorem add_new (sb : Nat) (T : BT ByteArray) (x : ByteArray) (w : World) (h : SetAt w sb T) (hx : ¬ x ∈ lst T) (hb : (lst T).length + 1 ≤ 4611686018427) :
    Calls Try.prog 17 #[.pointer (some ⟨sb, 0, none⟩), .string x] w (Added w sb (lst T) x) := by
  have hs := has_any sb T x w h
  rw [show memD x (lst T) = false from by simp [hx]] at hs
  have HS := hide hs
  have HX := hide hx
  obtain ⟨hc, hf, hT, hup⟩ := h
  obtain ⟨u, hu⟩ := ptr_pointer T
  rw [hu] at hc
  have W := hide (with_any x T u w hu hT hup hx hb)
  have hsb : sb < w.heap.size := World.block_lt_of_cell? _ _ hc
  clear hs hx hT hup hu
  go_enter Try.func17, Try.ntmps17
  go_wp2_with (first
    | (go_at_call 18; refine HS.out.mono ?_; rintro e w' ⟨rfl, rfl⟩)
    | (go_at_call 33; refine W.out.mono ?_; rintro e w1 ⟨p, T1, rfl, hp, hT1, hB1, hP1⟩; have d0 : w1.cell? ⟨sb, 0, none⟩ = some (.pointer u) := (hB1.cell (p := ⟨sb, 0, none⟩) hsb).trans hc; have d1 : w1.frozen? ⟨sb, 0, none⟩ = false := (hB1.frozen (p := ⟨sb, 0, none⟩) hsb).trans hf; have HT1 := hide hT1; have HB1 := hide hB1; have HP1 := hide hP1; have Hp := hide hp; clear hT1 hB1 hP1 hp))
  go_ret
  refine ⟨by simp [HX.out], T1, ⟨?_, ?_, inT_set eS_ne d0 _ HT1.out, HP1.out.1⟩, ?_, fun h => absurd h HX.out, fun _ => HP1.out⟩
  · rw [Hp.out]; exact World.cell?_setCell_same' _ _ _ (by rw [d0]; rfl)
  · simp [d1]
  · refine ⟨HB1.out.os, HB1.out.tape, HB1.out.output, by simpa [World.setCell] using HB1.out.size, fun k hk hne => ?_⟩
    rw [Below.heap_setCell _ _ _ _ (by rintro rfl; exact hne rfl)]
    exact HB1.out.block k hk

theorem add_any (sb : Nat) (T : BT ByteArray) (x : ByteArray) (w : World) (h : SetAt w sb T) (hb : (lst T).length + 1 ≤ 4611686018427) :
    Calls Try.prog 17 #[.pointer (some ⟨sb, 0, none⟩), .string x] w (Added w sb (lst T) x) := by
  by_cases hx : x ∈ lst T
  · exact add_old sb T x w h hx
  · exact add_new sb T x w h hx hb

set_option maxHeartbeats 400000 in
theorem len_any (sb : Nat) (T : BT ByteArray) (w : World) (h : SetAt w sb T) :
    Calls Try.prog 19 #[.pointer (some ⟨sb, 0, none⟩)] w fun e w' => e = .returned (.int .i64 (lst T).length) ∧ w' = w := by
  obtain ⟨hc, _, hT, _⟩ := h
  obtain ⟨u, hu⟩ := ptr_pointer T
  rw [hu] at hc
  have S := hide (size_at hu hT)
  clear hu hT
  go_enter Try.func19, Try.ntmps19
  go_wp2_with (go_at_call 34; refine S.out.mono ?_; rintro e w' ⟨rfl, rfl⟩)
  go_ret
  exact ⟨rfl, rfl⟩

set_option maxHeartbeats 400000 in
theorem at_below (sb : Nat) (i : Int) (w : World) (hi : i < 0) :
    Calls Try.prog 21 #[.pointer (some ⟨sb, 0, none⟩), .int .i64 i] w fun e w' => e = .returned (.tuple #[.string ByteArray.empty, .bool false]) ∧ w' = w := by
  go_enter Try.func21, Try.ntmps21
  go_wp2
  go_ret2
  exact ⟨rfl, rfl⟩

set_option maxHeartbeats 400000 in
theorem at_above (sb : Nat) (T : BT ByteArray) (i : Nat) (w : World) (h : SetAt w sb T) (hi : (lst T).length ≤ i) (hb : i ≤ 4611686018427) :
    Calls Try.prog 21 #[.pointer (some ⟨sb, 0, none⟩), .int .i64 i] w fun e w' => e = .returned (.tuple #[.string ByteArray.empty, .bool false]) ∧ w' = w := by
  have L := hide (len_any sb T w h)
  clear h
  have h0 : ¬ (i : Int) < 0 := by omega
  have h1 : ((lst T).length : Int) ≤ (i : Int) := by omega
  go_enter Try.func21, Try.ntmps21
  go_wp2_with (go_at_call 19; refine L.out.mono ?_; rintro e w' ⟨rfl, rfl⟩)
  go_ret2
  exact ⟨rfl, rfl⟩

theorem get_left {l r : List ByteArray} {a : ByteArray} {i : Nat} (h : i < l.length) : (l ++ a :: r).getD i ByteArray.empty = l.getD i ByteArray.empty := by
  simp [List.getD, List.getElem?_append_left h]
theorem get_mid {l r : List ByteArray} {a : ByteArray} {i : Nat} (h : i = l.length) : (l ++ a :: r).getD i ByteArray.empty = a := by
  subst h; simp [List.getD]
theorem get_right {l r : List ByteArray} {a : ByteArray} {i : Nat} (h : l.length < i) : (l ++ a :: r).getD i ByteArray.empty = r.getD (i - (l.length + 1)) ByteArray.empty := by
  simp only [List.getD]
  rw [List.getElem?_append_right (by omega), show i - l.length = (i - (l.length + 1)) + 1 by omega, List.getElem?_cons_succ]

set_option maxHeartbeats 1000000 in
theorem at_in (sb : Nat) (T : BT ByteArray) (i : Nat) (w : World) (h : SetAt w sb T) (hi : i < (lst T).length) (hb : (lst T).length ≤ 4611686018427) :
    Calls Try.prog 21 #[.pointer (some ⟨sb, 0, none⟩), .int .i64 i] w fun e w' => e = .returned (.tuple #[.string ((lst T).getD i ByteArray.empty), .bool true]) ∧ w' = w := by
  have L := hide (len_any sb T w h)
  obtain ⟨hc, _, hT, _⟩ := h
  obtain ⟨u, hu⟩ := ptr_pointer T
  rw [hu] at hc
  have HT : Hid (T.ptr = .pointer u ∧ InT eS w T) := ⟨hu, hT⟩
  clear hu hT
  have h0 : ¬ (i : Int) < 0 := by omega
  have h1 : ¬ ((lst T).length : Int) ≤ (i : Int) := by omega
  have h2 : decide ((lst T).length ≤ i) = false := by simp; omega
  go_enter Try.func21, Try.ntmps21
  go_wp2_with (go_at_call 19; refine L.out.mono ?_; rintro e w' ⟨rfl, hw⟩; rw [hw]; clear hw w')
  go_loopg [1, 7] (lst T).length (fun k q p wr => wr = w ∧ ∃ (j : Nat) (u' : Option Addr) (S : BT ByteArray), q = .int .i64 j ∧ p = .pointer u' ∧ (lst S).length = k ∧ S.ptr = .pointer u' ∧ InT eS w S ∧ j < (lst S).length ∧ (lst S).length ≤ 4611686018427 ∧ (lst S).getD j ByteArray.empty = (lst T).getD i ByteArray.empty)
  case atStart => exact ⟨rfl, i, u, T, rfl, rfl, rfl, HT.out.1, HT.out.2, hi, hb, rfl⟩
  case round =>
    obtain ⟨rfl, j, u', S, rfl, rfl, hk, hu', hS, hj, hbs, hin⟩ := hrel
    have HIN := hide hin
    have HK := hide hk
    clear hin hk HT h0 h1 h2 hi hb L
    cases S with
    | nil => simp [lst] at hj
    | node b o a l r =>
      have ho : o = 0 := hS.1
      subst ho
      have e : u' = some ⟨b, 0, none⟩ := by
        have : Value.pointer (some ⟨b, 0, none⟩) = .pointer u' := hu'
        injection this with h
        exact h.symm
      subst e
      obtain ⟨_, c0, c1, c2, c3, hl, hr⟩ := hS
      obtain ⟨ul, hul⟩ := ptr_pointer l
      obtain ⟨ur, hur⟩ := ptr_pointer r
      rw [hul] at c2
      rw [hur] at c3
      have SL := hide (size_at hul hl)
      have HL : Hid (l.ptr = .pointer ul ∧ InT eS wr l) := ⟨hul, hl⟩
      have HR : Hid (r.ptr = .pointer ur ∧ InT eS wr r) := ⟨hur, hr⟩
      have hlen : (lst (.node b 0 a l r)).length = (lst l).length + 1 + (lst r).length := by simp [lst]; omega
      rw [hlen] at hj hbs
      have HLEN := hide hlen
      clear hu' c1 hul hur hl hr hc hlen
      rcases Nat.lt_trichotomy j (lst l).length with c | c | c
      · have q1 : ((j : Int) != ((lst l).length : Int)) = true := by rw [bne_iff_ne]; omega
        have q2 : (j : Int) < ((lst l).length : Int) := by omega
        go_wp2_with (go_at_call 34; refine SL.out.mono ?_; rintro e w' ⟨rfl, rfl⟩)
        go_roundg (lst l).length
        case measure => have := HK.out; have := HLEN.out; omega
        case rel => exact ⟨rfl, j, ul, l, rfl, rfl, rfl, HL.out.1, HL.out.2, c, by omega, by rw [← HIN.out, lst, get_left c]⟩
      · have q1 : ((j : Int) != ((lst l).length : Int)) = false := by rw [bne_eq_false_iff_eq]; omega
        have C := hide c
        clear c
        go_wp2_with (go_at_call 34; refine SL.out.mono ?_; rintro e w' ⟨rfl, rfl⟩)
        go_ret2
        have e : (lst T).getD i ByteArray.empty = a := by rw [← HIN.out, lst, get_mid C.out]
        exact ⟨by rw [e]; rfl, rfl⟩
      · have q1 : ((j : Int) != ((lst l).length : Int)) = true := by rw [bne_iff_ne]; omega
        have q2 : ¬ (j : Int) < ((lst l).length : Int) := by omega
        go_wp2_with (go_at_call 34; refine SL.out.mono ?_; rintro e w' ⟨rfl, rfl⟩)
        go_roundg (lst r).length
        case measure => have := HK.out; have := HLEN.out; omega
        case rel => exact ⟨rfl, j - ((lst l).length + 1), ur, r, by go_num, rfl, rfl, HR.out.1, HR.out.2, by omega, by omega, by rw [← HIN.out, lst, get_right c]⟩
end Go.Proofs.Ytkncboinfcnklaa.Str
