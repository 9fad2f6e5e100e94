import Derived.Test.YtkncboinfcnklaaS10
namespace Go.Proofs.Ytkncboinfcnklaa.Str
open Go.RowKit Go.Deep Go.Proofs.Ytkncboinfcnklaa.Mth

/-- A slice of slices that read as these lists. -/
def RdL (w : World) (v : Value) (Ls : List (List ByteArray)) : Prop :=
  ∃ (a : Option Addr) (c : Nat), v = .slice a Ls.length c ∧ Ls.length ≤ c ∧ c ≤ maxLen ∧ (Ls = [] ∨ ∃ b o, a = some ⟨b, o, none⟩ ∧ ∀ i, i < Ls.length → ∃ vi, w.cell? ⟨b, o + i, none⟩ = some vi ∧ Rd w vi (Ls.getD i []))

theorem flat_succ {Ls : List (List ByteArray)} {k : Nat} (h : k < Ls.length) : (Ls.take (k + 1)).flatten = (Ls.take k).flatten ++ Ls.getD k [] := by
  rw [List.take_succ_eq_append_getElem h, List.flatten_append]
  simp [List.getD, h]

theorem flat_le (Ls : List (List ByteArray)) (k : Nat) : (Ls.take k).flatten.length ≤ Ls.flatten.length := by
  have h : Ls.flatten = (Ls.take k).flatten ++ (Ls.drop k).flatten := by rw [← List.flatten_append, List.take_append_drop]
  rw [h, List.length_append]
  omega

theorem cur_below {w0 w : World} {v : Value} {l : List ByteArray} (h : Cur w0 w v l) : Below w0.heap.size w0 w := h.1

theorem cur_more {w0 w w2 : World} {v v2 : Value} {l m : List ByteArray} {n : Nat} (h : Cur w0 w v l) (hn : n = m.length) (h2 : w2.ownsRow w0.heap.size 9 1 v2 (l.length + n) (l.map eS ++ m.map eS)) (hg : w.grownBy w2 v.ownBlock) : Cur w0 w2 v2 (l ++ m) := by
  subst hn
  refine ⟨h.1.grown hg h.1.size ?_, by simpa using h2⟩
  intro k hk
  rcases h.2.2 with ⟨h0, _⟩ | ⟨g, cap, cur, hv, hbase, _⟩
  · subst h0; simp [Value.ownBlock] at hk
  · subst hv; simp [Value.ownBlock] at hk; omega

set_option maxHeartbeats 400000 in
theorem concat_nil (a : Option Addr) (c : Nat) (w : World) :
    Calls Try.prog 29 #[.slice a 0 c] w fun e w' => ∃ v', e = .returned v' ∧ Cur w w' v' [] := by
  have G := hide (grow_any 0 (by omega) w)
  go_enter Try.func29, Try.ntmps29
  go_wp2_with fail
  go_loop [3, 11] (fun s i => s = .int .i64 0 ∧ i = .int .i64 0) (fun _ _ => 0)
  case atStart => exact ⟨rfl, rfl⟩
  case round =>
    obtain ⟨rfl, rfl⟩ := hrel
    go_wp2_with (go_at_call 43; refine G.out.mono ?_; rintro e w1 ⟨v1, rfl, hc1⟩; have HC1 := hide hc1; clear hc1)
    go_loop [6, 27] (fun s i => s = v1 ∧ i = .int .i64 0) (fun _ _ => 0)
    case atStart => exact ⟨rfl, rfl⟩
    case round =>
      obtain ⟨rfl, rfl⟩ := hrel
      go_wp2
      go_ret
      exact ⟨_, rfl, HC1.out⟩

set_option maxRecDepth 100000 in
set_option maxHeartbeats 4000000 in
theorem concat_some (b o c : Nat) (Ls : List (List ByteArray)) (w : World) (hc : Ls.length ≤ c) (hm : c ≤ maxLen) (h : ∀ i, i < Ls.length → ∃ vi, w.cell? ⟨b, o + i, none⟩ = some vi ∧ Rd w vi (Ls.getD i [])) (hb : Ls.flatten.length ≤ 1048576) (hne : 0 < Ls.length) :
    Calls Try.prog 29 #[.slice (some ⟨b, o, none⟩) Ls.length c] w fun e w' => ∃ v', e = .returned v' ∧ Cur w w' v' Ls.flatten := by
  unfold maxLen at hm
  have H := hide h
  have hblt : b < w.heap.size := by
    obtain ⟨vi, h1, _⟩ := h 0 hne
    exact World.block_lt_of_cell? _ _ h1
  have G := hide (fun n hn => grow_any n hn w)
  clear h
  obtain ⟨i0, hi0, hz0, hz1, hz2⟩ := info_parts Try.info9
  generalize hn : Ls.length = n at *
  have HN := hide hn
  clear hn
  go_enter Try.func29, Try.ntmps29
  go_wp2_with fail
  go_loop [3, 11] (fun s i => ∃ k : Nat, k ≤ n ∧ i = .int .i64 k ∧ s = .int .i64 ((Ls.take k).flatten.length)) (fun _ i => n - (intOf i).toNat)
  case atStart => exact ⟨0, Nat.zero_le _, rfl, by simp⟩
  case round =>
    obtain ⟨k, hk, rfl, rfl⟩ := hrel
    have hfl := flat_le Ls k
    by_cases hlt : k < n
    · obtain ⟨vi, hcell, hrd⟩ := H.out k hlt
      obtain ⟨ai, ci, rfl, _, _⟩ := rd_len hrd
      have hfl2 := flat_le Ls (k + 1)
      have hs := flat_succ (Ls := Ls) (k := k) (by rw [HN.out]; exact hlt)
      have hs' : (Ls.take (k + 1)).flatten.length = (Ls.take k).flatten.length + (Ls.getD k []).length := by rw [hs, List.length_append]
      have HS := hide hs'
      have hbd : (Ls.take k).flatten.length + (Ls.getD k []).length ≤ 1048576 := by omega
      clear hs hs' hrd hfl2
      generalize hX : (Ls.take k).flatten.length = X at *
      generalize hY : (Ls.getD k []).length = Y at *
      clear hX hY
      go_wp2
      go_round
      case rel => exact ⟨k + 1, by omega, by go_num, by rw [HS.out]; go_num⟩
      case measure => simp [intOf]; omega
    · have hkn : k = n := by omega
      subst hkn
      have hfull : (Ls.take k).flatten = Ls.flatten := by rw [List.take_of_length_le (by rw [HN.out]; exact Nat.le_refl _)]
      rw [hfull]
      rw [hfull] at hfl
      clear hfull
      generalize hL : Ls.flatten.length = L at *
      go_wp2_with (go_at_call 43; refine (G.out L (by omega)).mono ?_; rintro e w1 ⟨v1, rfl, hc1⟩; have HC1 := hide hc1; clear hc1)
      have HL := hide hL
      clear hL
      go_loopw [6, 27] (fun s i wr => ∃ j : Nat, j ≤ k ∧ i = .int .i64 j ∧ Cur w wr s (Ls.take j).flatten) (fun _ i _ => k - (intOf i).toNat)
      case atStart => exact ⟨0, Nat.zero_le _, rfl, by simpa using HC1.out⟩
      case round =>
        obtain ⟨j, hj, rfl, hcur⟩ := hrel
        by_cases hlt2 : j < k
        · obtain ⟨vi, hcell, hrd⟩ := H.out j hlt2
          have hcell' : wr.cell? ⟨b, o + j, none⟩ = some vi := (hcur.1.cell (p := ⟨b, o + j, none⟩) hblt).trans hcell
          have hs := flat_succ (Ls := Ls) (k := j) (by rw [HN.out]; exact hlt2)
          have hfl2 := flat_le Ls (j + 1)
          have hbd : (Ls.take j).flatten.length + (Ls.getD j []).length ≤ 1048576 := by rw [hs, List.length_append] at hfl2; have := HL.out; omega
          have HS := hide hs
          have HC := hide hcur
          have hsz := hcur.1.size
          clear hs hfl2 hcell hcur
          rcases rd_cases hrd with ⟨rfl, hl0⟩ | ⟨ad, ci, rfl, hcells, hci, hcm⟩
          · have hl0' : (Ls.take (j + 1)).flatten = (Ls.take j).flatten := by rw [HS.out, hl0]; simp
            have HL0 := hide hl0'
            clear hrd hl0 hl0'
            go_wp2_with (at_builtin; refine wpList_append_own_none rfl _ _ 36 rfl w.heap.size 9 i0 1 Try.underlying36 hi0 _ _ _ rfl HC.out.2 rfl ?_)
            go_roundw
            case rel => exact ⟨j + 1, by omega, by go_num, by rw [HL0.out]; exact HC.out⟩
            case measure => simp [intOf]; omega
          · have hnews : Hid (∀ q u, ((Ls.getD j []).map eS)[q]? = some u → wr.cell? (ad.add q) = some u) := by
              intro q u hq
              have h1 := hcells q u hq
              have h2 : (ad.add q).block = ad.block := by unfold Addr.add; split <;> rfl
              have h3 : (ad.add q).block < w.heap.size := World.block_lt_of_cell? _ _ h1
              exact (HC.out.1.cell (p := ad.add q) h3).trans h1
            have HCELLS := hide hcells
            clear hrd hcells
            generalize hY : (Ls.getD j []) = Y at *
            have HY := hide hY
            clear hY
            go_wp2_with (at_builtin; refine wpList_append_own _ rfl _ _ 36 rfl w.heap.size 9 i0 (.string ByteArray.empty) 1 16 Try.underlying36 hi0 hz0 hz1 hz2 rfl (by decide) _ _ _ rfl HC.out.2 ad Y.length ci (Y.map eS) rfl (by simp) hnews.out (by intro u hu; simp at hu; obtain ⟨z, _, rfl⟩ := hu; rfl) (by unfold maxLen; omega) (by omega) (by omega) ?_; intro v2 w2 hown2 hgrow2 _; have HC2 := hide (cur_more HC.out rfl hown2 hgrow2); clear hown2 hgrow2)
            go_roundw
            case rel => exact ⟨j + 1, by omega, by go_num, by rw [HS.out]; exact HC2.out⟩
            case measure => simp [intOf]; omega
        · have hjk : j = k := by omega
          subst hjk
          have HC := hide hcur
          clear hcur
          go_wp2
          go_ret
          exact ⟨_, rfl, by have := HC.out; rwa [List.take_of_length_le (by rw [HN.out]; exact Nat.le_refl _)] at this⟩

theorem concat_any {v : Value} {Ls : List (List ByteArray)} {w : World} (h : RdL w v Ls) (hb : Ls.flatten.length ≤ 1048576) :
    Calls Try.prog 29 #[v] w fun e w' => ∃ v', e = .returned v' ∧ Cur w w' v' Ls.flatten := by
  obtain ⟨a, c, rfl, hc, hm, h⟩ := h
  by_cases hne : Ls = []
  · subst hne
    simpa using concat_nil a c w
  · rcases h with h | ⟨b, o, rfl, h⟩
    · exact absurd h hne
    · exact concat_some b o c Ls w hc hm h hb (List.length_pos_iff.2 hne)
end Go.Proofs.Ytkncboinfcnklaa.Str
