import Derived.Test.YtkncboinfcnklaaDoorP4
import Derived.Lib.ConvBytes
import Derived.Lib.LaidTab
import Derived.WalkSmall
namespace Go.Proofs.YtkncboinfcnklaaDoor
open Go.RowKit Go.Deep Go.Proofs.YtkncboinfcnklaaDoor.Mth

def Tab (w : World) : Prop := Lib.TabIs Tryd.prog w "strings.asciiSpace" .u8 Lib.asciiSpaceTab

theorem Tryd.gSpaceSome : (Tryd.prog.globalNamed "strings.asciiSpace").isSome = true := by kernel_rfl
theorem Tryd.gSpace : ∃ g, Tryd.prog.globalNamed "strings.asciiSpace" = some g := Option.isSome_iff_exists.1 Tryd.gSpaceSome

theorem Tab.below {w w' : World} {B : Nat} (h : Tab w) (hb : Below B w w') (hB : w.heap.size ≤ B) : Tab w' := by
  obtain ⟨g, hg⟩ := Tryd.gSpace
  have hlt : g < w.heap.size := by
    unfold Tab Lib.TabIs World.var? at h
    simp only [hg, Option.bind_some] at h
    rcases Nat.lt_or_ge g w.heap.size with c | c
    · exact c
    · rw [Array.getElem?_eq_none c] at h; simp at h
  exact var?_below hb hg (by omega) h

/-- The bytes that are cut into words. -/
def low (s : ByteArray) : ByteArray := strOfNums ((tb s).map sml)
/-- The words of a text. -/
def wd (s : ByteArray) : List ByteArray := mergedS ((Lib.fields (low s).data.toList).map ofL)

theorem tb_get (s : ByteArray) (j : Nat) (hj : j < s.size) : (tb s).getD j 0 = ((s.data.toList.getD j 0).toNat : Int) := by
  have hj' : j < s.data.toList.length := by simpa using hj
  unfold tb
  simp [List.getD, List.getElem?_map, List.getElem?_eq_getElem hj']

theorem bytesWorld_below (w : World) (s : ByteArray) : Below w.heap.size w (Lib.bytesWorld w 5 s) :=
  ⟨rfl, rfl, rfl, by rw [Lib.bytesWorld_size]; omega, fun k hk => Lib.bytesWorld_at_old w 5 s k hk⟩

theorem bytesWorld_frozen (w : World) (s : ByteArray) (j : Nat) (hj : j < s.size) : (Lib.bytesWorld w 5 s).frozen? ⟨w.heap.size, j, none⟩ = false := by
  have h := Lib.bytesWorld_at_new w 5 s
  have hsz : s.size ≤ (Lib.bytesCells w 5 s).size := by unfold Lib.bytesCells; simp
  simp only [World.frozen?, h]
  simp
  omega

theorem low_ascii (s : ByteArray) (j : Nat) (b : UInt8) (h : (low s).data.toList[j]? = some b) : b.toNat < 128 := by
  unfold low strOfNums at h
  simp [List.getElem?_map] at h
  obtain ⟨x, _, rfl⟩ := h
  have := sml_bd x
  have e : (UInt8.ofNat (sml x).toNat).toNat = (sml x).toNat % 256 := by simp
  omega

theorem low_size (s : ByteArray) : (low s).size = s.size := by
  have : (low s).size = (low s).data.toList.length := by simp
  rw [this]
  unfold low strOfNums
  simp [tb]

theorem fieldsGo_flat : ∀ (l cur : List UInt8), (Lib.fieldsGo cur l).flatten.length ≤ cur.length + l.length ∧ (Lib.fieldsGo cur l).length ≤ 1 + l.length
  | [], cur => by
    unfold Lib.fieldsGo
    split <;> simp_all
  | b :: l, cur => by
    unfold Lib.fieldsGo
    split
    · split
      · have := fieldsGo_flat l []
        simp at this ⊢
        omega
      · have := fieldsGo_flat l []
        simp at this ⊢
        omega
    · have := fieldsGo_flat l (cur ++ [b])
      simp at this ⊢
      omega

theorem fields_len (s : List UInt8) : (Lib.fields s).length ≤ 1 + s.length := (fieldsGo_flat s []).2
theorem flat_mem {l : List (List UInt8)} {x : List UInt8} (h : x ∈ l) : x.length ≤ l.flatten.length := by
  induction l with
  | nil => cases h
  | cons y l ih =>
    rw [List.flatten_cons, List.length_append]
    rcases List.mem_cons.1 h with e | e
    · subst e; omega
    · have := ih e; omega

/-- Words are few and short. -/
theorem wd_len (s : ByteArray) : (wd s).length ≤ 1 + s.size := by
  have h1 := mergedS_len ((Lib.fields (low s).data.toList).map ofL)
  have h2 := fields_len (low s).data.toList
  have h3 := low_size s
  have h4 : (low s).data.toList.length = (low s).size := by simp
  unfold wd
  rw [List.length_map] at h1
  omega
theorem wd_size (s : ByteArray) {x : ByteArray} (h : x ∈ wd s) : x.size ≤ s.size := by
  have h1 := ((mergedS_up _).2 x).1 h
  obtain ⟨y, hy, rfl⟩ := List.mem_map.1 h1
  have h2 := (fieldsGo_flat (low s).data.toList []).1
  have h3 := flat_mem hy
  have h4 : (low s).data.toList.length = s.size := by rw [← low_size s]; simp
  have h5 : (ofL y).size = y.length := by simp [ofL]; rfl
  rw [List.length_nil, Nat.zero_add, h4] at h2
  unfold Lib.fields at h3
  omega
theorem rd_fields (w : World) (F : List (List UInt8)) (hF : F.length ≤ 1048576) : Rd (w.alloc (.cells (F.map fun l => Value.string ⟨l.toArray⟩).toArray 9)) (.slice (some ⟨w.heap.size, 0, none⟩) F.length F.length) (F.map ofL) := by
  refine ⟨_, F.length, by rw [List.length_map], by rw [List.length_map]; exact Nat.le_refl _, by unfold maxLen; omega, (fun h => by cases h), Or.inr ⟨w.heap.size, 0, rfl, fun j hj => ?_⟩⟩
  rw [List.length_map] at hj
  have h1 : (w.alloc (.cells (F.map fun l => Value.string ⟨l.toArray⟩).toArray 9)).heap[w.heap.size]? = some (.cells (F.map fun l => Value.string ⟨l.toArray⟩).toArray 9 (0, 0)) := by
    show (w.heap.push _)[w.heap.size]? = _
    rw [Array.getElem?_push, if_pos rfl]
  simp only [World.cell?, h1]
  simp [List.getD, hj, ofL]

theorem fields_at (s : ByteArray) (w : World) (hs : s.size ≤ 60) (ha : ∀ (j : Nat) b, s.data.toList[j]? = some b → b.toNat < 128) (ht : Tab w) :
    Calls Tryd.prog 25 #[.string s] w fun e w' => e = .returned (.slice (some ⟨w.heap.size, 0, none⟩) (Lib.fields s.data.toList).length (Lib.fields s.data.toList).length) ∧ w' = w.alloc (.cells ((Lib.fields s.data.toList).map fun l => Value.string ⟨l.toArray⟩).toArray 9) :=
  Any.strings_Fields Tryd.laysFields Tryd.info9 (by kernel_rfl) s w (by omega) ha ht

/-- The row of such a slice holds texts. -/
def T9 (w : World) (v : Value) : Prop := ∀ g o n c, v = .slice (some ⟨g, o, none⟩) n c → ∃ C, w.heap[g]? = some (Obj.cells C 9 (0, 0))
theorem t9_own {w : World} {B n : Nat} {v : Value} {xs : List Value} (h : w.ownsRow B 9 1 v n xs) : T9 w v := by
  intro g o n' c e
  rcases h.2 with ⟨h0, _⟩ | ⟨g', cap, cur, hv, _, hg, _⟩
  · rw [h0] at e; cases e
  · rw [hv] at e
    injection e with e _ _
    injection e with e
    injection e with e _ _
    subst e
    exact ⟨cur, hg⟩
def RdT (w : World) (v : Value) (l : List ByteArray) : Prop := Rd w v l ∧ T9 w v
theorem RdT.below {w w' : World} {v : Value} {l : List ByteArray} (h : RdT w v l) (hb : Below w.heap.size w w') : RdT w' v l := by
  refine ⟨h.1.below hb, fun g o n c e => ?_⟩
  obtain ⟨C, hC⟩ := h.2 g o n c e
  exact ⟨C, by rw [hb.block g (Array.getElem?_eq_some_iff.1 hC).1]; exact hC⟩
/-- Bytes may grow beside. -/
theorem RdT.keep5 {w w' : World} {v : Value} {l : List ByteArray} (h : RdT w v l) (hk : Keep5 w w') : RdT w' v l := by
  have hT : T9 w' v := fun g o n c e => by
    obtain ⟨C, hC⟩ := h.2 g o n c e
    exact ⟨C, hk _ _ _ _ (by decide) hC⟩
  refine ⟨?_, hT⟩
  obtain ⟨a, c, rfl, hc, hm, hz, h'⟩ := h.1
  refine ⟨a, c, rfl, hc, hm, hz, ?_⟩
  rcases h' with h' | ⟨b, o, rfl, h'⟩
  · exact Or.inl h'
  · obtain ⟨C, hC⟩ := h.2 b o _ c rfl
    refine Or.inr ⟨b, o, rfl, fun j hj => ?_⟩
    rw [keep5_cell hk (by decide) hC]
    exact h' j hj

set_option maxRecDepth 100000 in
set_option maxHeartbeats 1000000 in
theorem words_any (s : ByteArray) (w : World) (ht : Tab w) (hs : s.size ≤ 60) :
    Calls Tryd.prog 18 #[.string s] w fun e w' => ∃ v', e = .returned v' ∧ Below w.heap.size w w' ∧ RdT w' v' (wd s) := by
  have HT := hide ht
  clear ht
  have hcv := Lib.run_convert_string_bytes (P := Tryd.prog) w 9 24 5 s (u := .string) Tryd.underlying9 Tryd.underlying24 Tryd.underlying5
  have hB0 := bytesWorld_below w s
  have hcell : ∀ j, j < s.size → (Lib.bytesWorld w 5 s).cell? ⟨w.heap.size, j, none⟩ = some (.int .u8 ((tb s).getD j 0)) := fun j hj => by rw [Lib.bytesWorld_cell w 5 s j hj, tb_get s j hj]
  have hfr := bytesWorld_frozen w s
  have hsz : w.heap.size < (Lib.bytesWorld w 5 s).heap.size := by rw [Lib.bytesWorld_size]; omega
  have HI : Hid (Below w.heap.size w (Lib.bytesWorld w 5 s) ∧ (∀ j, j < s.size → (Lib.bytesWorld w 5 s).cell? ⟨w.heap.size, j, none⟩ = some (.int .u8 (if j < 0 then sml ((tb s).getD j 0) else (tb s).getD j 0))) ∧ (∀ j, j < s.size → (Lib.bytesWorld w 5 s).frozen? ⟨w.heap.size, j, none⟩ = false)) := ⟨hB0, fun j hj => by rw [if_neg (by omega)]; exact hcell j hj, hfr⟩
  have hge := grownCap_ge w s.size 0 5
  generalize grownCap w s.size 0 5 = gc at *
  generalize hW : Lib.bytesWorld w 5 s = W at *
  generalize hnb0 : w.heap.size = nb at *
  have HNB := hide hnb0
  clear hB0 hcell hfr hsz hnb0
  go_enter Tryd.func18, Tryd.ntmps18
  go_wp2_with fail
  clear hcv hW
  go_loopw [10] (fun i wr => ∃ k : Nat, k ≤ s.size ∧ i = .int .i64 k ∧ Below nb w wr ∧ (∀ j, j < s.size → wr.cell? ⟨nb, j, none⟩ = some (.int .u8 (if j < k then sml ((tb s).getD j 0) else (tb s).getD j 0))) ∧ (∀ j, j < s.size → wr.frozen? ⟨nb, j, none⟩ = false)) (fun i _ => s.size - (intOf i).toNat)
  case atStart => exact ⟨0, Nat.zero_le _, rfl, HI.out⟩
  case round =>
    obtain ⟨k, hk, rfl, hb, hcs, hfs⟩ := hrel
    by_cases hlt : k < s.size
    · have hck := hcs k hlt
      rw [if_neg (by omega)] at hck
      have hfk := hfs k hlt
      have hx := bts_get (tb_bts s) k
      have HCS := hide hcs
      have HFS := hide hfs
      have HB := hide hb
      generalize hxx : (tb s).getD k 0 = x at *
      have HX := hide hxx
      obtain ⟨x1, x2⟩ := hx
      clear hcs hfs hb HI hxx
      go_wp2_with (go_at_call 24; refine (small_any x _ x1 x2).mono ?_; rintro e w' ⟨rfl, hw⟩; rw [hw]; clear hw w')
      go_roundw
      case rel =>
        refine ⟨k + 1, by omega, by go_num, HB.out.setCell (Nat.le_refl _) _, fun j hj => ?_, fun j hj => by rw [World.frozen?_setCell]; exact HFS.out j hj⟩
        by_cases c : j = k
        · subst c
          rw [if_pos (by omega), World.cell?_setCell_same' _ _ _ (by rw [hck]; rfl), HX.out]
        · rw [show (wr.setCell ⟨nb, k, none⟩ (Value.int IntKind.u8 (sml x))).cell? ⟨nb, j, none⟩ = wr.cell? ⟨nb, j, none⟩ from World.cell?_setCell_other _ _ _ _ (by intro e; injection e with _ e _; omega), HCS.out j hj]
          by_cases d : j < k
          · rw [if_pos d, if_pos (by omega)]
          · rw [if_neg d, if_neg (by omega)]
      case measure => simp [intOf]; omega
    · have hke : k = s.size := by omega
      subst hke
      have hcv2 := run_convert_bytes_arg (P := Tryd.prog) wr 24 5 Tryd.underlying24 Tryd.underlying5 nb 0 s.size gc ((tb s).map sml) (by simp [tb_len]) (fun j hj => by
        rw [Nat.zero_add, hcs j hj, if_pos hj]
        have hj' : j < (tb s).length := by rw [tb_len]; exact hj
        simp [List.getD, List.getElem?_map, List.getElem?_eq_getElem hj']) 9 Tryd.underlying9
      have hlow : strOfNums ((tb s).map sml) = low s := rfl
      rw [hlow] at hcv2
      have CF := hide (fields_at (low s) wr (by rw [low_size]; exact hs) (low_ascii s) (HT.out.below hb (Nat.le_of_eq HNB.out)))
      have hfl : (Lib.fields (low s).data.toList).length ≤ 61 := by
        have h2 := fields_len (low s).data.toList
        have h4 : (low s).data.toList.length = s.size := by rw [← low_size s]; simp
        omega
      have RF := hide (rd_fields wr (Lib.fields (low s).data.toList) (by omega))
      have hbw := hide (hb.trans ((below_alloc wr (.cells ((Lib.fields (low s).data.toList).map fun l => Value.string ⟨l.toArray⟩).toArray 9)).mono (by have := hb.size; have := HNB.out; omega)))
      have hwd : Hid (wd s = mergedS ((Lib.fields (low s).data.toList).map ofL)) := rfl
      generalize Lib.fields (low s).data.toList = FL at *
      generalize low s = ls at *
      clear hcs hfs HI hlow hlt
      go_wp2_with fail
      refine CF.out.mono ?_
      rintro e w2 ⟨rfl, hw2⟩
      rw [← hw2] at RF hbw
      clear hw2 hcv2 CF
      have MG := hide (merge_any (rdL_one RF.out) (by simpa using (by omega : FL.length ≤ 1048576)))
      go_wp2_with fail
      refine MG.out.mono ?_
      rintro e w3 ⟨v3, rfl, hc3⟩
      have HC3 := hide hc3
      clear hc3 MG
      go_wp2
      go_ret
      exact ⟨_, rfl, hbw.out.trans (((below_alloc w2 _).trans (HC3.out.1.mono (below_alloc w2 _).size)).mono (by have := hbw.out.size; have := HNB.out; omega)), by rw [hwd.out]; exact ⟨by simpa using cur_rd HC3.out, t9_own HC3.out.2⟩⟩
end Go.Proofs.YtkncboinfcnklaaDoor
