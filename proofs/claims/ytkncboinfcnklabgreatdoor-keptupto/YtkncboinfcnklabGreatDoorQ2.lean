import Derived.Test.YtkncboinfcnklabGreatDoorProg
import Derived.Test.YtkncboinfcnklabGreatDoorQ1
import Derived.Test.YtkncboinfcnklabGreatDoorShelf
import Derived.Laws.AppendOwnNone
import Derived.Lib.OwnBridge
import Derived.WalkKit
import Derived.WalkSpells
import Derived.WalkLawsBesides
import Derived.Deep.RegionHeld3
import Derived.Deep.LoopGhost
import Derived.Deep.QuietTactic
import Derived.BigQuiet
import Derived.Deep.DeepFit
import Derived.Outline
import Derived.Lib.Fields
import Derived.Laws.BytesArg
import Derived.RowKit
import Derived.Lib.QuietBelow
import Derived.Lib.AppendStr
import Derived.Maps.AppendAt
import Derived.Lib.ConvBytes
import Derived.Lib.LaidTab
import Derived.WalkSmall
import Derived.Shelf.Bytes.SlSmallAll
namespace Go.Proofs.YtkncboinfcnklabGreatDoor
open Go.RowKit Go.Deep Go.Proofs.YtkncboinfcnklabGreatDoor.Mth Go.Sort

abbrev eS : ByteArray → Value := Value.string
theorem hide {p : Prop} (h : p) : Hid p := h

theorem Tryz.info9 : (Tryz.prog.info? 9).map (fun i => (i.zero, i.size, i.bytes)) = some (some (.string ByteArray.empty), 1, 16) := by kernel_rfl

/-- A slice of the call's own that holds these numbers; below B nothing has turned. -/
def Cur (w0 w : World) (v : Value) (l : List ByteArray) : Prop := Below w0.heap.size w0 w ∧ w.ownsRow w0.heap.size 9 1 v l.length (l.map eS)

/-- A slice whose elements read as these numbers. -/
def Rd (w : World) (v : Value) (l : List ByteArray) : Prop :=
  ∃ (a : Option Addr) (c : Nat), v = .slice a l.length c ∧ l.length ≤ c ∧ c ≤ maxLen ∧ (a = none → c = 0) ∧ (l = [] ∨ ∃ b o, a = some ⟨b, o, none⟩ ∧ ∀ j, j < l.length → w.cell? ⟨b, o + j, none⟩ = some (.string (l.getD j ByteArray.empty)))

theorem Rd.below {w w' : World} {v : Value} {l : List ByteArray} (h : Rd w v l) (hb : Below w.heap.size w w') : Rd w' v l := by
  obtain ⟨a, c, rfl, hc, hm, hz, h⟩ := h
  refine ⟨a, c, rfl, hc, hm, hz, ?_⟩
  rcases h with h | ⟨b, o, rfl, h⟩
  · exact Or.inl h
  · refine Or.inr ⟨b, o, rfl, fun j hj => ?_⟩
    have h1 := h j hj
    exact (hb.cell (p := ⟨b, o + j, none⟩) (World.block_lt_of_cell? _ _ h1)).trans h1

theorem rd_own {w : World} {B : Nat} {v : Value} {l : List ByteArray} (h : w.ownsRow B 9 1 v l.length (l.map eS)) : Rd w v l := by
  by_cases hv : v = .slice none 0 0
  · have hl : l = [] := by
      rcases h.2 with ⟨_, h0⟩ | ⟨g, cap, cur, hv', _⟩
      · exact List.length_eq_zero_iff.1 h0
      · rw [hv] at hv'; cases hv'
    subst hl
    exact ⟨none, 0, hv, Nat.le_refl _, by unfold maxLen; omega, fun _ => rfl, Or.inl rfl⟩
  · obtain ⟨g, cap, rfl, _, _, hn, hm, _, hH⟩ := Lib.holds_of_ownsRow (enc := eS) h hv
    refine ⟨_, cap, rfl, hn, hm, (fun h => by cases h), Or.inr ⟨g, 0, rfl, fun j hj => ?_⟩⟩
    have := (hH j (by simpa using hj)).1
    rw [this]
    simp [getElem!_pos, hj, List.getD]

theorem rd_cases {w : World} {v : Value} {l : List ByteArray} (h : Rd w v l) : (v = .slice none 0 0 ∧ l = []) ∨ ∃ ad c, v = .slice (some ad) l.length c ∧ (∀ j u, (l.map eS)[j]? = some u → w.cell? (ad.add j) = some u) ∧ l.length ≤ c ∧ c ≤ maxLen := by
  obtain ⟨a, c, rfl, hc, hm, hz, h⟩ := h
  cases a with
  | none =>
    have h0 := hz rfl
    subst h0
    have hl : l = [] := List.length_eq_zero_iff.1 (by omega)
    subst hl
    exact Or.inl ⟨rfl, rfl⟩
  | some ad =>
    refine Or.inr ⟨ad, c, rfl, ?_, hc, hm⟩
    intro j u hj
    rcases h with h | ⟨b, o, e, h⟩
    · subst h; simp at hj
    · injection e with e
      subst e
      have hj' : j < l.length := by
        have := (List.getElem?_eq_some_iff.1 hj).1
        simpa using this
      have h1 := h j hj'
      rw [Go.WideShapes.add_plain, h1]
      simp [List.getElem?_map, List.getElem?_eq_getElem hj'] at hj
      rw [← hj]
      simp [List.getD, hj']

theorem rd_len {w : World} {v : Value} {l : List ByteArray} (h : Rd w v l) : ∃ a c, v = .slice a l.length c ∧ l.length ≤ c ∧ c ≤ maxLen := by
  obtain ⟨a, c, rfl, hc, hm, _, _⟩ := h
  exact ⟨a, c, rfl, hc, hm⟩

theorem size_zeroCells (z : Array Value) (n : Nat) (hz : z.size = 1) : (Builtin.zeroCells z n).size = n := by
  simp [Builtin.zeroCells, hz]

theorem own_fresh (w : World) (cs : Array Value) (e : TypeId) (cap : Nat) (h : cs.size = cap) (hm : cap ≤ maxLen) : (w.alloc (.cells cs e)).ownsRow w.heap.size e 1 (.slice (some ⟨w.heap.size, 0, none⟩) 0 cap) 0 [] := by
  refine ⟨rfl, Or.inr ⟨w.heap.size, cap, cs, rfl, Nat.le_refl _, ?_, Nat.zero_le _, hm, by omega, by simp⟩⟩
  show (w.heap.push _)[w.heap.size]? = _
  rw [Array.getElem?_push, if_pos rfl]

theorem grow_any (n : Nat) (hn : n ≤ 4194304) (w : World) :
    Calls Tryz.prog 119 #[.slice none 0 0, .int .i64 n] w fun e w' => ∃ v, e = .returned v ∧ Cur w w' v [] := by
  by_cases h0 : n = 0
  · subst h0
    refine (Any8.slices_Grow_room Tryz.laysGrowS none 0 0 0 w (by omega) (by omega) (by omega) (by omega)).mono ?_
    rintro e w' ⟨rfl, rfl⟩
    exact ⟨_, rfl, Below.refl _ _, World.ownsRow_nil _ _ _ _⟩
  · obtain ⟨i0, hi0, hz0, hz1, hz2⟩ := info_parts Tryz.info9
    refine (Any8.slices_Grow_grow Tryz.laysGrowS i0 (.string ByteArray.empty) hi0 hz0 (by omega) none 0 0 n [] w (by omega) (by omega) (by rw [hz2]; omega) (by omega) (by simp) (fun _ => rfl) (fun a ha => by cases ha)).mono ?_
    rintro e w' ⟨rfl, rfl⟩
    refine ⟨_, rfl, (Below.refl w.heap.size w).drew.alloc (Nat.le_refl _) _, own_fresh w.drew _ 9 _ ?_ (grownCap_le_maxLen _ _ _ _ (by unfold maxLen; omega))⟩
    have hge := grownCap_ge w (0 + n) 0 (Tryz.laysGrowS_ren.t 25)
    rw [Array.size_append, Array.size_append, size_zeroCells _ _ rfl, size_zeroCells _ _ rfl]
    simp at hge ⊢
    omega
/-- A slice of slices that read as these lists. -/
def RdL (w : World) (v : Value) (Ls : List (List ByteArray)) : Prop :=
  ∃ (a : Option Addr) (c : Nat), v = .slice a Ls.length c ∧ Ls.length ≤ c ∧ c ≤ maxLen ∧ (Ls = [] ∨ ∃ b o, a = some ⟨b, o, none⟩ ∧ ∀ i, i < Ls.length → ∃ vi, w.cell? ⟨b, o + i, none⟩ = some vi ∧ Rd w vi (Ls.getD i []))

theorem flat_succ {Ls : List (List ByteArray)} {k : Nat} (h : k < Ls.length) : (Ls.take (k + 1)).flatten = (Ls.take k).flatten ++ Ls.getD k [] := by
  rw [List.take_succ_eq_append_getElem h, List.flatten_append]
  simp [List.getD, h]

theorem flat_le (Ls : List (List ByteArray)) (k : Nat) : (Ls.take k).flatten.length ≤ Ls.flatten.length := by
  have h : Ls.flatten = (Ls.take k).flatten ++ (Ls.drop k).flatten := by rw [← List.flatten_append, List.take_append_drop]
  rw [h, List.length_append]
  omega

theorem cur_more {w0 w w2 : World} {v v2 : Value} {l m : List ByteArray} {n : Nat} (h : Cur w0 w v l) (hn : n = m.length) (h2 : w2.ownsRow w0.heap.size 9 1 v2 (l.length + n) (l.map eS ++ m.map eS)) (hg : w.grownBy w2 v.ownBlock) : Cur w0 w2 v2 (l ++ m) := by
  subst hn
  refine ⟨h.1.grown hg h.1.size ?_, by simpa using h2⟩
  intro k hk
  rcases h.2.2 with ⟨h0, _⟩ | ⟨g, cap, cur, hv, hbase, _⟩
  · subst h0; simp [Value.ownBlock] at hk
  · subst hv; simp [Value.ownBlock] at hk; omega

set_option maxHeartbeats 400000 in
theorem concat_nil (a : Option Addr) (c : Nat) (w : World) :
    Calls Tryz.prog 96 #[.slice a 0 c] w fun e w' => ∃ v', e = .returned v' ∧ Cur w w' v' [] := by
  have G := hide (grow_any 0 (by omega) w)
  go_enter Tryz.func96, Tryz.ntmps96
  go_wp2_with fail
  go_loop [3, 11] (fun s i => s = .int .i64 0 ∧ i = .int .i64 0) (fun _ _ => 0)
  case atStart => exact ⟨rfl, rfl⟩
  case round =>
    obtain ⟨rfl, rfl⟩ := hrel
    go_wp2_with (go_at_call 119; refine G.out.mono ?_; rintro e w1 ⟨v1, rfl, hc1⟩; have HC1 := hide hc1; clear hc1)
    go_loop [6, 27] (fun s i => s = v1 ∧ i = .int .i64 0) (fun _ _ => 0)
    case atStart => exact ⟨rfl, rfl⟩
    case round =>
      obtain ⟨rfl, rfl⟩ := hrel
      go_wp2
      go_ret
      exact ⟨_, rfl, HC1.out⟩

set_option maxRecDepth 100000 in
set_option maxHeartbeats 4000000 in
theorem concat_some (b o c : Nat) (Ls : List (List ByteArray)) (w : World) (hc : Ls.length ≤ c) (hm : c ≤ maxLen) (h : ∀ i, i < Ls.length → ∃ vi, w.cell? ⟨b, o + i, none⟩ = some vi ∧ Rd w vi (Ls.getD i [])) (hb : Ls.flatten.length ≤ 4194304) (hne : 0 < Ls.length) :
    Calls Tryz.prog 96 #[.slice (some ⟨b, o, none⟩) Ls.length c] w fun e w' => ∃ v', e = .returned v' ∧ Cur w w' v' Ls.flatten := by
  unfold maxLen at hm
  have H := hide h
  have hblt : b < w.heap.size := by
    obtain ⟨vi, h1, _⟩ := h 0 hne
    exact World.block_lt_of_cell? _ _ h1
  have G := hide (fun n hn => grow_any n hn w)
  clear h
  obtain ⟨i0, hi0, hz0, hz1, hz2⟩ := info_parts Tryz.info9
  generalize hn : Ls.length = n at *
  have HN := hide hn
  clear hn
  go_enter Tryz.func96, Tryz.ntmps96
  go_wp2_with fail
  go_loop [3, 11] (fun s i => ∃ k : Nat, k ≤ n ∧ i = .int .i64 k ∧ s = .int .i64 ((Ls.take k).flatten.length)) (fun _ i => n - (intOf i).toNat)
  case atStart => exact ⟨0, Nat.zero_le _, rfl, by simp⟩
  case round =>
    obtain ⟨k, hk, rfl, rfl⟩ := hrel
    have hfl := flat_le Ls k
    by_cases hlt : k < n
    · obtain ⟨vi, hcell, hrd⟩ := H.out k hlt
      obtain ⟨ai, ci, rfl, _, _⟩ := rd_len hrd
      have hfl2 := flat_le Ls (k + 1)
      have hs := flat_succ (Ls := Ls) (k := k) (by rw [HN.out]; exact hlt)
      have hs' : (Ls.take (k + 1)).flatten.length = (Ls.take k).flatten.length + (Ls.getD k []).length := by rw [hs, List.length_append]
      have HS := hide hs'
      have hbd : (Ls.take k).flatten.length + (Ls.getD k []).length ≤ 4194304 := by omega
      clear hs hs' hrd hfl2
      generalize hX : (Ls.take k).flatten.length = X at *
      generalize hY : (Ls.getD k []).length = Y at *
      clear hX hY
      go_wp2
      go_round
      case rel => exact ⟨k + 1, by omega, by go_num, by rw [HS.out]; go_num⟩
      case measure => simp [intOf]; omega
    · have hkn : k = n := by omega
      subst hkn
      have hfull : (Ls.take k).flatten = Ls.flatten := by rw [List.take_of_length_le (by rw [HN.out]; exact Nat.le_refl _)]
      rw [hfull]
      rw [hfull] at hfl
      clear hfull
      generalize hL : Ls.flatten.length = L at *
      go_wp2_with (go_at_call 119; refine (G.out L (by omega)).mono ?_; rintro e w1 ⟨v1, rfl, hc1⟩; have HC1 := hide hc1; clear hc1)
      have HL := hide hL
      clear hL
      go_loopw [6, 27] (fun s i wr => ∃ j : Nat, j ≤ k ∧ i = .int .i64 j ∧ Cur w wr s (Ls.take j).flatten) (fun _ i _ => k - (intOf i).toNat)
      case atStart => exact ⟨0, Nat.zero_le _, rfl, by simpa using HC1.out⟩
      case round =>
        obtain ⟨j, hj, rfl, hcur⟩ := hrel
        by_cases hlt2 : j < k
        · obtain ⟨vi, hcell, hrd⟩ := H.out j hlt2
          have hcell' : wr.cell? ⟨b, o + j, none⟩ = some vi := (hcur.1.cell (p := ⟨b, o + j, none⟩) hblt).trans hcell
          have hs := flat_succ (Ls := Ls) (k := j) (by rw [HN.out]; exact hlt2)
          have hfl2 := flat_le Ls (j + 1)
          have hbd : (Ls.take j).flatten.length + (Ls.getD j []).length ≤ 4194304 := by rw [hs, List.length_append] at hfl2; have := HL.out; omega
          have HS := hide hs
          have HC := hide hcur
          have hsz := hcur.1.size
          clear hs hfl2 hcell hcur
          rcases rd_cases hrd with ⟨rfl, hl0⟩ | ⟨ad, ci, rfl, hcells, hci, hcm⟩
          · have hl0' : (Ls.take (j + 1)).flatten = (Ls.take j).flatten := by rw [HS.out, hl0]; simp
            have HL0 := hide hl0'
            clear hrd hl0 hl0'
            go_wp2_with (at_builtin; refine wpList_append_own_none rfl _ _ 34 rfl w.heap.size 9 i0 1 Tryz.underlying34 hi0 _ _ _ rfl HC.out.2 rfl ?_)
            go_roundw
            case rel => exact ⟨j + 1, by omega, by go_num, by rw [HL0.out]; exact HC.out⟩
            case measure => simp [intOf]; omega
          · have hnews : Hid (∀ q u, ((Ls.getD j []).map eS)[q]? = some u → wr.cell? (ad.add q) = some u) := by
              intro q u hq
              have h1 := hcells q u hq
              have h2 : (ad.add q).block = ad.block := by unfold Addr.add; split <;> rfl
              have h3 : (ad.add q).block < w.heap.size := World.block_lt_of_cell? _ _ h1
              exact (HC.out.1.cell (p := ad.add q) h3).trans h1
            have HCELLS := hide hcells
            clear hrd hcells
            generalize hY : (Ls.getD j []) = Y at *
            have HY := hide hY
            clear hY
            go_wp2_with (at_builtin; refine wpList_append_own _ rfl _ _ 34 rfl w.heap.size 9 i0 (.string ByteArray.empty) 1 16 Tryz.underlying34 hi0 hz0 hz1 hz2 rfl (by decide) _ _ _ rfl HC.out.2 ad Y.length ci (Y.map eS) rfl (by simp) hnews.out (by intro u hu; simp at hu; obtain ⟨z, _, rfl⟩ := hu; rfl) (by unfold maxLen; omega) (by omega) (by omega) ?_; intro v2 w2 hown2 hgrow2 _; have HC2 := hide (cur_more HC.out rfl hown2 hgrow2); clear hown2 hgrow2)
            go_roundw
            case rel => exact ⟨j + 1, by omega, by go_num, by rw [HS.out]; exact HC2.out⟩
            case measure => simp [intOf]; omega
        · have hjk : j = k := by omega
          subst hjk
          have HC := hide hcur
          clear hcur
          go_wp2
          go_ret
          exact ⟨_, rfl, by have := HC.out; rwa [List.take_of_length_le (by rw [HN.out]; exact Nat.le_refl _)] at this⟩

theorem concat_any {v : Value} {Ls : List (List ByteArray)} {w : World} (h : RdL w v Ls) (hb : Ls.flatten.length ≤ 4194304) :
    Calls Tryz.prog 96 #[v] w fun e w' => ∃ v', e = .returned v' ∧ Cur w w' v' Ls.flatten := by
  obtain ⟨a, c, rfl, hc, hm, h⟩ := h
  by_cases hne : Ls = []
  · subst hne
    simpa using concat_nil a c w
  · rcases h with h | ⟨b, o, rfl, h⟩
    · exact absurd h hne
    · exact concat_some b o c Ls w hc hm h hb (List.length_pos_iff.2 hne)
theorem sort_at (g cap : Nat) (zs : List (List UInt8)) (w : World) (hH : Holds encStr w g 0 zs.toArray) (hg : g < w.heap.size) (hsz : zs.length ≤ 4194304) :
    Calls Tryz.prog 97 #[.slice (some ⟨g, 0, none⟩) zs.length cap] w fun e w' => e = .returned (.tuple #[]) ∧ ∃ n os, w' = grow (putRow encStr (Sort.ahead w n) g 0 (zs.mergeSort fun x y => decide (x ≤ y)).toArray) os :=
  Any.slices_Sort_string Tryz.laysSortS g 0 cap zs w hH hg (by omega)

theorem comp_at (g cap : Nat) (zs : List (List UInt8)) (w : World) (hH : Holds encStr w g 0 zs.toArray) (hc : zs.length ≤ cap) (hsz : zs.length ≤ 4194304) :
    Calls Tryz.prog 98 #[.slice (some ⟨g, 0, none⟩) zs.length cap] w fun e w' => e = .returned (.slice (some ⟨g, 0, none⟩) (Lib.compact zs).length cap) ∧ ∃ q, w' = putRow encStr (Sort.ahead w q) g 0 (Lib.compact zs ++ List.replicate (zs.length - (Lib.compact zs).length) []).toArray :=
  Any.slices_Compact_string Tryz.laysCompS g 0 cap zs w hH (by omega) hc

theorem sort_none_at (p : Option Addr) (cap : Nat) (w : World) : Calls Tryz.prog 97 #[.slice p 0 cap] w fun e w' => e = .returned (.tuple #[]) ∧ w' = w := Any.slices_Sort_string_none Tryz.laysSortS p cap w
theorem comp_none_at (p : Option Addr) (cap : Nat) (w : World) : Calls Tryz.prog 98 #[.slice p 0 cap] w fun e w' => e = .returned (.slice p 0 cap) ∧ w' = w := Any.slices_Compact_string_empty Tryz.laysCompS p cap w

theorem enc_of (l : List (List UInt8)) : (l.map ofL).map eS = l.map encStr := by
  rw [List.map_map]
  rfl

set_option maxRecDepth 100000 in
set_option maxHeartbeats 1000000 in
theorem merge_core (v : Value) (l : List ByteArray) (w : World) (C : Hid (Calls Tryz.prog 96 #[v] w fun e w' => ∃ v', e = .returned v' ∧ Cur w w' v' l)) (hb : l.length ≤ 4194304) :
    Calls Tryz.prog 74 #[v] w fun e w' => ∃ v', e = .returned v' ∧ Cur w w' v' (mergedS l) := by
  go_enter Tryz.func74, Tryz.ntmps74
  go_wp2_with fail
  refine C.out.mono ?_
  rintro e w1 ⟨v1, rfl, hcur⟩
  by_cases hv : v1 = .slice none 0 0
  · subst hv
    have hl : l = [] := by
      rcases hcur.2.2 with ⟨_, h0⟩ | ⟨g, cap, cur, hv', _⟩
      · exact List.length_eq_zero_iff.1 h0
      · cases hv'
    subst hl
    have HC := hide hcur
    clear hcur
    go_wp2_with (first
      | (go_at_call 97; refine (sort_none_at _ _ _).mono ?_; rintro e w' ⟨rfl, rfl⟩)
      | (go_at_call 98; refine (comp_none_at _ _ _).mono ?_; rintro e w' ⟨rfl, rfl⟩))
    go_ret
    exact ⟨_, rfl, by simpa [mergedS, mergedL, Lib.compact, Lib.compactUpTo] using HC.out⟩
  · have hown : w1.ownsRow w.heap.size 9 1 v1 l.length ((l.map (·.data.toList)).map encStr) := by rw [Lib.map_encStr]; exact hcur.2
    have hlow := hcur.1
    have hll : (l.map (·.data.toList)).length = l.length := List.length_map ..
    have hmm : mergedS l = (Lib.compact ((l.map (·.data.toList)).mergeSort fun x y => decide (x ≤ y))).map ofL := rfl
    generalize l.map (·.data.toList) = ss at *
    obtain ⟨g, cap, rfl, hbg, hgl, hncap, hcm, _, hH⟩ := Lib.holds_of_ownsRow (enc := encStr) hown hv
    have hs := hide (sort_at g cap ss w1 hH hgl (by omega))
    have hl2 : (ss.mergeSort fun x y => decide (x ≤ y)).length = ss.length := List.length_mergeSort ss
    generalize hts : (ss.mergeSort fun x y => decide (x ≤ y)) = ts at *
    rw [hll] at hs
    have HM := hide hmm
    have HL2 : Hid (ts.length = l.length) := hl2.trans hll
    have HLL := hide hll
    have HH := hide hH
    have HOWN := hide hown
    have HLOW := hide hlow
    clear hcur hH hts hv hmm hl2 hown hll hlow
    generalize hln : l.length = n at *
    clear hln
    go_wp2_with fail
    refine hs.out.mono ?_
    rintro e w2 ⟨rfl, nn, os, rfl⟩
    have hH2 : Holds encStr (grow (putRow encStr (Sort.ahead w1 nn) g 0 ts.toArray) os) g 0 ts.toArray :=
      holds_grow encStr _ os g 0 _ (by simpa [putRow, mapBlock, Sort.ahead] using hgl) (holds_putRow encStr _ g 0 _ _ (holds_ahead encStr w1 nn g 0 _ HH.out) (by simp [HL2.out, HLL.out]))
    have hcomp := comp_at g cap ts _ hH2 (by rw [HL2.out]; exact hncap) (by rw [HL2.out]; exact hb)
    rw [HL2.out] at hcomp
    have HCOMP := hide hcomp
    clear hH2 hcomp
    go_wp2_with fail
    refine HCOMP.out.mono ?_
    rintro e w3 ⟨rfl, q, rfl⟩
    have E := srt_end (nn := nn) (q := q) (os := os) (z := ([] : List UInt8)) (ts := ts) (HL2.out.trans HLL.out.symm) HOWN.out HLOW.out (Nat.le_refl _) HLOW.out.size
    have HE := hide E
    clear E
    go_wp2
    go_ret
    exact ⟨_, rfl, by rw [HM.out]; exact ⟨HE.out.2, by rw [enc_of, List.length_map]; exact HE.out.1⟩⟩

theorem merge_any {v : Value} {Ls : List (List ByteArray)} {w : World} (h : RdL w v Ls) (hb : Ls.flatten.length ≤ 4194304) :
    Calls Tryz.prog 74 #[v] w fun e w' => ∃ v', e = .returned v' ∧ Cur w w' v' (mergedS Ls.flatten) :=
  merge_core v _ w (concat_any h hb) hb
theorem rdL_one {w : World} {va : Value} {A : List ByteArray} (h : Rd w va A) : RdL (w.alloc (.cells #[va] 34)) (.slice (some ⟨w.heap.size, 0, none⟩) 1 1) [A] := by
  refine ⟨_, 1, rfl, by simp, by unfold maxLen; omega, Or.inr ⟨w.heap.size, 0, rfl, fun i hi => ?_⟩⟩
  have : i = 0 := by simp at hi; omega
  subst this
  exact ⟨va, by simp, by simpa using h.below ((Below.refl w.heap.size w).alloc (Nat.le_refl _) _)⟩

theorem below_alloc (w : World) (o : Obj) : Below w.heap.size w (w.alloc o) := (Below.refl w.heap.size w).alloc (Nat.le_refl _) o

end Go.Proofs.YtkncboinfcnklabGreatDoor

namespace Go.Proofs.YtkncboinfcnklabGreatDoor.Mth
open Go.Lib Go.RowKit

/-- An entry. -/
structure Ent where
  seq : Int
  time : Int
  text : ByteArray

/-- The bytes of a text, as numbers. -/
def tb (s : ByteArray) : List Int := s.data.toList.map (fun u => (u.toNat : Int))

def Bts (l : List Int) : Prop := ∀ x ∈ l, 0 ≤ x ∧ x < 256

theorem tb_bts (s : ByteArray) : Bts (tb s) := by
  intro x h
  obtain ⟨u, _, rfl⟩ := List.mem_map.1 h
  have := u.toNat_lt
  constructor <;> omega

theorem tb_len (s : ByteArray) : (tb s).length = s.size := by simp [tb]

theorem of_tb (s : ByteArray) : strOfNums (tb s) = s := by
  apply bytes_ext
  unfold strOfNums tb
  simp only [List.map_map]
  show List.map _ s.data.toList = s.data.toList
  conv => rhs; rw [← List.map_id s.data.toList]
  apply List.map_congr_left
  intro u _
  simp

theorem tb_of {l : List Int} (h : Bts l) : tb (strOfNums l) = l := by
  unfold tb strOfNums
  simp only [List.map_map]
  conv => rhs; rw [← List.map_id l]
  apply List.map_congr_left
  intro x hx
  have := h x hx
  simp
  omega

/-! ### the sum -/
/-! ### numbers are read again -/
/-! ### segments, their bytes -/
def e0 : Ent := ⟨0, 0, ByteArray.empty⟩
/-! ### reading -/
/-! ### what a byte that is another makes -/
end Go.Proofs.YtkncboinfcnklabGreatDoor.Mth

namespace Go.Proofs.YtkncboinfcnklabGreatDoor
open Go.RowKit Go.Deep Go.Proofs.YtkncboinfcnklabGreatDoor.Mth

abbrev eV (e : Ent) : Value := .agg #[.int .i64 e.seq, .int .i64 e.time, .string e.text]

theorem below_drew {w w' : World} {n : Nat} (h : Below (w.drewN n).heap.size (w.drewN n) w') : Below w.heap.size w w' := ⟨h.os, h.tape, h.output, h.size, h.block⟩
theorem below_drewN (w : World) (n : Nat) : Below w.heap.size w (w.drewN n) := ⟨rfl, rfl, rfl, Nat.le_refl _, fun _ _ => rfl⟩

end Go.Proofs.YtkncboinfcnklabGreatDoor

namespace Go.Proofs.YtkncboinfcnklabGreatDoor
open Go.RowKit Go.Deep Go.Proofs.YtkncboinfcnklabGreatDoor.Mth

/-- A slice whose elements read as these entries. -/
def RdE (w : World) (v : Value) (l : List Ent) : Prop :=
  ∃ (a : Option Addr) (c : Nat), v = .slice a l.length c ∧ l.length ≤ c ∧ c ≤ maxLen ∧ (l = [] ∨ ∃ b o, a = some ⟨b, o, none⟩ ∧ ∀ j, j < l.length → w.cell? ⟨b, o + j * 3, none⟩ = some (.int .i64 (l.getD j e0).seq) ∧ w.cell? ⟨b, o + j * 3 + 1, none⟩ = some (.int .i64 (l.getD j e0).time) ∧ w.cell? ⟨b, o + j * 3 + 2, none⟩ = some (.string (l.getD j e0).text))

theorem RdE.below {w w' : World} {v : Value} {l : List Ent} (h : RdE w v l) (hb : Below w.heap.size w w') : RdE w' v l := by
  obtain ⟨a, c, rfl, hc, hm, h⟩ := h
  refine ⟨a, c, rfl, hc, hm, ?_⟩
  rcases h with h | ⟨b, o, rfl, h⟩
  · exact Or.inl h
  · refine Or.inr ⟨b, o, rfl, fun j hj => ?_⟩
    obtain ⟨h1, h2, h3⟩ := h j hj
    have hlt : b < w.heap.size := World.block_lt_of_cell? _ _ h1
    exact ⟨(hb.cell (p := ⟨b, _, none⟩) hlt).trans h1, (hb.cell (p := ⟨b, _, none⟩) hlt).trans h2, (hb.cell (p := ⟨b, _, none⟩) hlt).trans h3⟩

theorem rdE_len {w : World} {v : Value} {l : List Ent} (h : RdE w v l) : ∃ a c, v = .slice a l.length c ∧ l.length ≤ c ∧ c ≤ maxLen := by
  obtain ⟨a, c, rfl, hc, hm, _⟩ := h
  exact ⟨a, c, rfl, hc, hm⟩

theorem rdE_at {w : World} {a : Option Addr} {n c : Nat} {l : List Ent} (h : RdE w (.slice a n c) l) (j : Nat) (hj : j < l.length) : ∃ b o, a = some ⟨b, o, none⟩ ∧ b < w.heap.size ∧ w.cell? ⟨b, o + j * 3, none⟩ = some (.int .i64 (l.getD j e0).seq) ∧ w.cell? ⟨b, o + j * 3 + 1, none⟩ = some (.int .i64 (l.getD j e0).time) ∧ w.cell? ⟨b, o + j * 3 + 2, none⟩ = some (.string (l.getD j e0).text) := by
  obtain ⟨a', c', e, hc, hm, h⟩ := h
  injection e with e1 e2 e3
  rcases h with h | ⟨b, o, e4, h⟩
  · subst h; simp at hj
  · exact ⟨b, o, e1.trans e4, World.block_lt_of_cell? _ _ (h j hj).1, h j hj⟩

theorem below_drew1 {w w' : World} (h : Below w.drew.heap.size w.drew w') : Below w.heap.size w w' := ⟨h.os, h.tape, h.output, h.size, h.block⟩

end Go.Proofs.YtkncboinfcnklabGreatDoor

namespace Go.Proofs.YtkncboinfcnklabGreatDoor
open Go.RowKit Go.Deep Go.Proofs.YtkncboinfcnklabGreatDoor.Mth

theorem bts_get {l : List Int} (h : Bts l) (k : Nat) : 0 ≤ l.getD k 0 ∧ l.getD k 0 < 256 := by
  by_cases c : k < l.length
  · have := h l[k] (List.getElem_mem c)
    simpa [List.getD, c] using this
  · simp [List.getD, List.getElem?_eq_none (by omega : l.length ≤ k)]

/-- A byte of a text, as it stands ahead of the cutting into words. -/
def sml (c : Int) : Int := if 65 ≤ c ∧ c ≤ 90 then c + 32 else if (97 ≤ c ∧ c ≤ 122) ∨ (48 ≤ c ∧ c ≤ 57) then c else 32

theorem sml_bd (c : Int) : 0 ≤ sml c ∧ sml c < 128 := by unfold sml; split <;> (try split) <;> omega

set_option maxHeartbeats 1000000 in
theorem small_any (c : Int) (w : World) (h0 : 0 ≤ c) (h1 : c < 256) : Calls Tryz.prog 73 #[.int .u8 c] w fun e w' => e = .returned (.int .u8 (sml c)) ∧ w' = w := by
  go_enter Tryz.func73, Tryz.ntmps73
  go_wp2
  all_goals go_ret
  all_goals refine ⟨?_, rfl⟩
  all_goals (congr 2; unfold sml)
  all_goals first | (rw [if_pos (by omega)]; first | rfl | omega | (simp; omega)) | (rw [if_neg (by omega), if_pos (by omega)]; first | rfl | omega) | (rw [if_neg (by omega), if_neg (by omega)]; first | rfl | omega)
end Go.Proofs.YtkncboinfcnklabGreatDoor

namespace Go.Proofs.YtkncboinfcnklabGreatDoor
open Go.RowKit Go.Deep Go.Proofs.YtkncboinfcnklabGreatDoor.Mth

def Tab (w : World) : Prop := Lib.TabIs Tryz.prog w "strings.asciiSpace" .u8 Lib.asciiSpaceTab

theorem Tryz.gSpaceSome : (Tryz.prog.globalNamed "strings.asciiSpace").isSome = true := by kernel_rfl
theorem Tryz.gSpace : ∃ g, Tryz.prog.globalNamed "strings.asciiSpace" = some g := Option.isSome_iff_exists.1 Tryz.gSpaceSome

theorem Tab.below {w w' : World} {B : Nat} (h : Tab w) (hb : Below B w w') (hB : w.heap.size ≤ B) : Tab w' := by
  obtain ⟨g, hg⟩ := Tryz.gSpace
  have hlt : g < w.heap.size := by
    unfold Tab Lib.TabIs World.var? at h
    simp only [hg, Option.bind_some] at h
    rcases Nat.lt_or_ge g w.heap.size with c | c
    · exact c
    · rw [Array.getElem?_eq_none c] at h; simp at h
  exact var?_below hb hg (by omega) h

/-- The bytes that are cut into words. -/
def low (s : ByteArray) : ByteArray := strOfNums ((tb s).map sml)
/-- The words of a text. -/
def wd (s : ByteArray) : List ByteArray := mergedS ((Lib.fields (low s).data.toList).map ofL)

theorem tb_get (s : ByteArray) (j : Nat) (hj : j < s.size) : (tb s).getD j 0 = ((s.data.toList.getD j 0).toNat : Int) := by
  have hj' : j < s.data.toList.length := by simpa using hj
  unfold tb
  simp [List.getD, List.getElem?_map, List.getElem?_eq_getElem hj']

theorem bytesWorld_below (w : World) (s : ByteArray) : Below w.heap.size w (Lib.bytesWorld w 5 s) :=
  ⟨rfl, rfl, rfl, by rw [Lib.bytesWorld_size]; omega, fun k hk => Lib.bytesWorld_at_old w 5 s k hk⟩

theorem bytesWorld_frozen (w : World) (s : ByteArray) (j : Nat) (hj : j < s.size) : (Lib.bytesWorld w 5 s).frozen? ⟨w.heap.size, j, none⟩ = false := by
  have h := Lib.bytesWorld_at_new w 5 s
  have hsz : s.size ≤ (Lib.bytesCells w 5 s).size := by unfold Lib.bytesCells; simp
  simp only [World.frozen?, h]
  simp
  omega

theorem low_ascii (s : ByteArray) (j : Nat) (b : UInt8) (h : (low s).data.toList[j]? = some b) : b.toNat < 128 := by
  unfold low strOfNums at h
  simp [List.getElem?_map] at h
  obtain ⟨x, _, rfl⟩ := h
  have := sml_bd x
  have e : (UInt8.ofNat (sml x).toNat).toNat = (sml x).toNat % 256 := by simp
  omega

theorem low_size (s : ByteArray) : (low s).size = s.size := by
  have : (low s).size = (low s).data.toList.length := by simp
  rw [this]
  unfold low strOfNums
  simp [tb]

theorem fieldsGo_flat : ∀ (l cur : List UInt8), (Lib.fieldsGo cur l).flatten.length ≤ cur.length + l.length ∧ (Lib.fieldsGo cur l).length ≤ 1 + l.length
  | [], cur => by
    unfold Lib.fieldsGo
    split <;> simp_all
  | b :: l, cur => by
    unfold Lib.fieldsGo
    split
    · split
      · have := fieldsGo_flat l []
        simp at this ⊢
        omega
      · have := fieldsGo_flat l []
        simp at this ⊢
        omega
    · have := fieldsGo_flat l (cur ++ [b])
      simp at this ⊢
      omega

theorem fields_len (s : List UInt8) : (Lib.fields s).length ≤ 1 + s.length := (fieldsGo_flat s []).2
theorem flat_mem {l : List (List UInt8)} {x : List UInt8} (h : x ∈ l) : x.length ≤ l.flatten.length := by
  induction l with
  | nil => cases h
  | cons y l ih =>
    rw [List.flatten_cons, List.length_append]
    rcases List.mem_cons.1 h with e | e
    · subst e; omega
    · have := ih e; omega

/-- Words are few and short. -/
theorem wd_len (s : ByteArray) : (wd s).length ≤ 1 + s.size := by
  have h1 := mergedS_len ((Lib.fields (low s).data.toList).map ofL)
  have h2 := fields_len (low s).data.toList
  have h3 := low_size s
  have h4 : (low s).data.toList.length = (low s).size := by simp
  unfold wd
  rw [List.length_map] at h1
  omega
theorem wd_size (s : ByteArray) {x : ByteArray} (h : x ∈ wd s) : x.size ≤ s.size := by
  have h1 := ((mergedS_up _).2 x).1 h
  obtain ⟨y, hy, rfl⟩ := List.mem_map.1 h1
  have h2 := (fieldsGo_flat (low s).data.toList []).1
  have h3 := flat_mem hy
  have h4 : (low s).data.toList.length = s.size := by rw [← low_size s]; simp
  have h5 : (ofL y).size = y.length := by simp [ofL]; rfl
  rw [List.length_nil, Nat.zero_add, h4] at h2
  unfold Lib.fields at h3
  omega
theorem rd_fields (w : World) (F : List (List UInt8)) (hF : F.length ≤ 4194304) : Rd (w.alloc (.cells (F.map fun l => Value.string ⟨l.toArray⟩).toArray 9)) (.slice (some ⟨w.heap.size, 0, none⟩) F.length F.length) (F.map ofL) := by
  refine ⟨_, F.length, by rw [List.length_map], by rw [List.length_map]; exact Nat.le_refl _, by unfold maxLen; omega, (fun h => by cases h), Or.inr ⟨w.heap.size, 0, rfl, fun j hj => ?_⟩⟩
  rw [List.length_map] at hj
  have h1 : (w.alloc (.cells (F.map fun l => Value.string ⟨l.toArray⟩).toArray 9)).heap[w.heap.size]? = some (.cells (F.map fun l => Value.string ⟨l.toArray⟩).toArray 9 (0, 0)) := by
    show (w.heap.push _)[w.heap.size]? = _
    rw [Array.getElem?_push, if_pos rfl]
  simp only [World.cell?, h1]
  simp [List.getD, hj, ofL]

theorem fields_at (s : ByteArray) (w : World) (hs : s.size ≤ 1048576) (ha : ∀ (j : Nat) b, s.data.toList[j]? = some b → b.toNat < 128) (ht : Tab w) :
    Calls Tryz.prog 75 #[.string s] w fun e w' => e = .returned (.slice (some ⟨w.heap.size, 0, none⟩) (Lib.fields s.data.toList).length (Lib.fields s.data.toList).length) ∧ w' = w.alloc (.cells ((Lib.fields s.data.toList).map fun l => Value.string ⟨l.toArray⟩).toArray 9) :=
  Any.strings_Fields Tryz.laysFields Tryz.info9 (by kernel_rfl) s w (by omega) ha ht

/-- The row of such a slice holds texts. -/
def T9 (w : World) (v : Value) : Prop := ∀ g o n c, v = .slice (some ⟨g, o, none⟩) n c → ∃ C, w.heap[g]? = some (Obj.cells C 9 (0, 0))
theorem t9_own {w : World} {B n : Nat} {v : Value} {xs : List Value} (h : w.ownsRow B 9 1 v n xs) : T9 w v := by
  intro g o n' c e
  rcases h.2 with ⟨h0, _⟩ | ⟨g', cap, cur, hv, _, hg, _⟩
  · rw [h0] at e; cases e
  · rw [hv] at e
    injection e with e _ _
    injection e with e
    injection e with e _ _
    subst e
    exact ⟨cur, hg⟩
def RdT (w : World) (v : Value) (l : List ByteArray) : Prop := Rd w v l ∧ T9 w v
theorem own_mono {w : World} {B B' n : Nat} {e : TypeId} {sz : Nat} {v : Value} {xs : List Value} (h : w.ownsRow B e sz v n xs) (hb : B' ≤ B) : w.ownsRow B' e sz v n xs := by
  refine ⟨h.1, h.2.imp id ?_⟩
  rintro ⟨g, cap, cur, hv, h1, h2⟩
  exact ⟨g, cap, cur, hv, Nat.le_trans hb h1, h2⟩

set_option maxRecDepth 100000 in
set_option maxHeartbeats 1000000 in
theorem words_all (s : ByteArray) (w : World) (ht : Tab w) (hs : s.size ≤ 1048576) :
    Calls Tryz.prog 48 #[.string s] w fun e w' => ∃ v', e = .returned v' ∧ Cur w w' v' (wd s) := by
  have HT := hide ht
  clear ht
  have hcv := Lib.run_convert_string_bytes (P := Tryz.prog) w 9 146 5 s (u := .string) Tryz.underlying9 Tryz.underlying146 Tryz.underlying5
  have hB0 := bytesWorld_below w s
  have hcell : ∀ j, j < s.size → (Lib.bytesWorld w 5 s).cell? ⟨w.heap.size, j, none⟩ = some (.int .u8 ((tb s).getD j 0)) := fun j hj => by rw [Lib.bytesWorld_cell w 5 s j hj, tb_get s j hj]
  have hfr := bytesWorld_frozen w s
  have hsz : w.heap.size < (Lib.bytesWorld w 5 s).heap.size := by rw [Lib.bytesWorld_size]; omega
  have HI : Hid (Below w.heap.size w (Lib.bytesWorld w 5 s) ∧ (∀ j, j < s.size → (Lib.bytesWorld w 5 s).cell? ⟨w.heap.size, j, none⟩ = some (.int .u8 (if j < 0 then sml ((tb s).getD j 0) else (tb s).getD j 0))) ∧ (∀ j, j < s.size → (Lib.bytesWorld w 5 s).frozen? ⟨w.heap.size, j, none⟩ = false)) := ⟨hB0, fun j hj => by rw [if_neg (by omega)]; exact hcell j hj, hfr⟩
  have hge := grownCap_ge w s.size 0 5
  generalize grownCap w s.size 0 5 = gc at *
  generalize hW : Lib.bytesWorld w 5 s = W at *
  generalize hnb0 : w.heap.size = nb at *
  have HNB := hide hnb0
  clear hB0 hcell hfr hsz hnb0
  go_enter Tryz.func48, Tryz.ntmps48
  go_wp2_with fail
  clear hcv hW
  go_loopw [10] (fun i wr => ∃ k : Nat, k ≤ s.size ∧ i = .int .i64 k ∧ Below nb w wr ∧ (∀ j, j < s.size → wr.cell? ⟨nb, j, none⟩ = some (.int .u8 (if j < k then sml ((tb s).getD j 0) else (tb s).getD j 0))) ∧ (∀ j, j < s.size → wr.frozen? ⟨nb, j, none⟩ = false)) (fun i _ => s.size - (intOf i).toNat)
  case atStart => exact ⟨0, Nat.zero_le _, rfl, HI.out⟩
  case round =>
    obtain ⟨k, hk, rfl, hb, hcs, hfs⟩ := hrel
    by_cases hlt : k < s.size
    · have hck := hcs k hlt
      rw [if_neg (by omega)] at hck
      have hfk := hfs k hlt
      have hx := bts_get (tb_bts s) k
      have HCS := hide hcs
      have HFS := hide hfs
      have HB := hide hb
      generalize hxx : (tb s).getD k 0 = x at *
      have HX := hide hxx
      obtain ⟨x1, x2⟩ := hx
      clear hcs hfs hb HI hxx
      go_wp2_with (go_at_call 73; refine (small_any x _ x1 x2).mono ?_; rintro e w' ⟨rfl, hw⟩; rw [hw]; clear hw w')
      go_roundw
      case rel =>
        refine ⟨k + 1, by omega, by go_num, HB.out.setCell (Nat.le_refl _) _, fun j hj => ?_, fun j hj => by rw [World.frozen?_setCell]; exact HFS.out j hj⟩
        by_cases c : j = k
        · subst c
          rw [if_pos (by omega), World.cell?_setCell_same' _ _ _ (by rw [hck]; rfl), HX.out]
        · rw [show (wr.setCell ⟨nb, k, none⟩ (Value.int IntKind.u8 (sml x))).cell? ⟨nb, j, none⟩ = wr.cell? ⟨nb, j, none⟩ from World.cell?_setCell_other _ _ _ _ (by intro e; injection e with _ e _; omega), HCS.out j hj]
          by_cases d : j < k
          · rw [if_pos d, if_pos (by omega)]
          · rw [if_neg d, if_neg (by omega)]
      case measure => simp [intOf]; omega
    · have hke : k = s.size := by omega
      subst hke
      have hcv2 := run_convert_bytes_arg (P := Tryz.prog) wr 146 5 Tryz.underlying146 Tryz.underlying5 nb 0 s.size gc ((tb s).map sml) (by simp [tb_len]) (fun j hj => by
        rw [Nat.zero_add, hcs j hj, if_pos hj]
        have hj' : j < (tb s).length := by rw [tb_len]; exact hj
        simp [List.getD, List.getElem?_map, List.getElem?_eq_getElem hj']) 9 Tryz.underlying9
      have hlow : strOfNums ((tb s).map sml) = low s := rfl
      rw [hlow] at hcv2
      have CF := hide (fields_at (low s) wr (by rw [low_size]; exact hs) (low_ascii s) (HT.out.below hb (Nat.le_of_eq HNB.out)))
      have hfl : (Lib.fields (low s).data.toList).length ≤ 1048577 := by
        have h2 := fields_len (low s).data.toList
        have h4 : (low s).data.toList.length = s.size := by rw [← low_size s]; simp
        omega
      have RF := hide (rd_fields wr (Lib.fields (low s).data.toList) (by omega))
      have hbw := hide (hb.trans ((below_alloc wr (.cells ((Lib.fields (low s).data.toList).map fun l => Value.string ⟨l.toArray⟩).toArray 9)).mono (by have := hb.size; have := HNB.out; omega)))
      have hwd : Hid (wd s = mergedS ((Lib.fields (low s).data.toList).map ofL)) := rfl
      generalize Lib.fields (low s).data.toList = FL at *
      generalize low s = ls at *
      clear hcs hfs HI hlow hlt
      go_wp2_with fail
      refine CF.out.mono ?_
      rintro e w2 ⟨rfl, hw2⟩
      rw [← hw2] at RF hbw
      clear hw2 hcv2 CF
      have MG := hide (merge_any (rdL_one RF.out) (by simpa using (by omega : FL.length ≤ 4194304)))
      go_wp2_with fail
      refine MG.out.mono ?_
      rintro e w3 ⟨v3, rfl, hc3⟩
      have HC3 := hide hc3
      clear hc3 MG
      go_wp2
      go_ret
      have hz0 := HNB.out
      have hz1 := hbw.out.size
      have hz2 := (below_alloc w2 (Obj.cells #[.slice (some ⟨wr.heap.size, 0, none⟩) FL.length FL.length] 34)).size
      exact ⟨_, rfl, hz0 ▸ hbw.out.trans (((below_alloc w2 _).trans (HC3.out.1.mono (below_alloc w2 _).size)).mono (by omega)), by rw [hwd.out]; simpa using own_mono HC3.out.2 (by omega)⟩

theorem words_any (s : ByteArray) (w : World) (ht : Tab w) (hs : s.size ≤ 60) :
    Calls Tryz.prog 48 #[.string s] w fun e w' => ∃ v', e = .returned v' ∧ Below w.heap.size w w' ∧ RdT w' v' (wd s) := by
  refine (words_all s w ht (by omega)).mono ?_
  rintro e w' ⟨v', rfl, hc⟩
  exact ⟨v', rfl, hc.1, rd_own hc.2, t9_own hc.2⟩
end Go.Proofs.YtkncboinfcnklabGreatDoor

namespace Go.Proofs.YtkncboinfcnklabGreatDoor
open Go.RowKit Go.Deep Go.Proofs.YtkncboinfcnklabGreatDoor.Mth

theorem set_other {w : World} {nb k o : Nat} {u : Value} (h : k ≠ nb) : (w.setCell ⟨nb, o, none⟩ u).heap[k]? = w.heap[k]? := by
  simp [World.setCell, Array.getElem?_modify]
  intro e; exact absurd e.symm h

end Go.Proofs.YtkncboinfcnklabGreatDoor
