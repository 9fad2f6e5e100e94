import Derived.Test.YtkncboinfcnklaaDoorP2
import Derived.Lib.AppendStr
import Derived.Maps.AppendAt
namespace Go.Proofs.YtkncboinfcnklaaDoor
open Go.RowKit Go.Deep Go.Proofs.YtkncboinfcnklaaDoor.Mth

abbrev eB : Int → Value := Value.int .u8

theorem Tryd.info5 : (Tryd.prog.info? 5).map (fun i => (i.zero, i.size, i.bytes)) = some (some (.int .u8 0), 1, 1) := by kernel_rfl

/-- Bytes of the call's own. -/
def CurB (w0 w : World) (v : Value) (l : List Int) : Prop := Below w0.heap.size w0 w ∧ w.ownsRow w0.heap.size 5 1 v l.length (l.map eB)

theorem curB_append {w0 w w2 : World} {v v2 : Value} {o : Obj} {l : List Int} {a : Int} (h : CurB w0 w v l) (h2 : w2.ownsRow w0.heap.size 5 1 v2 (l.length + 1) (l.map eB ++ [.int .u8 a])) (hg : (w.alloc o).grownBy w2 v.ownBlock) : CurB w0 w2 v2 (l ++ [a]) :=
  ⟨below_append h.1 h.1.size h.2 hg, by simpa using h2⟩

theorem curB_more {w0 w w2 : World} {v v2 : Value} {l m : List Int} {n : Nat} (h : CurB w0 w v l) (hn : n = m.length) (h2 : w2.ownsRow w0.heap.size 5 1 v2 (l.length + n) (l.map eB ++ m.map eB)) (hg : w.grownBy w2 v.ownBlock) : CurB w0 w2 v2 (l ++ m) := by
  subst hn
  refine ⟨h.1.grown hg h.1.size ?_, by simpa using h2⟩
  intro k hk
  rcases h.2.2 with ⟨h0, _⟩ | ⟨g, cap, cur, hv, hbase, _⟩
  · subst h0; simp [Value.ownBlock] at hk
  · subst hv; simp [Value.ownBlock] at hk; omega

theorem curB_nil (w : World) : CurB w w (.slice none 0 0) [] := ⟨Below.refl _ _, World.ownsRow_nil _ _ _ _⟩

/-- Every block that holds no bytes stands as it stood. -/
def Keep5 (w w' : World) : Prop := ∀ (k : Nat) (c : Array Value) (t : TypeId) (fr : Nat × Nat), t ≠ 5 → w.heap[k]? = some (Obj.cells c t fr) → w'.heap[k]? = some (Obj.cells c t fr)

theorem Keep5.refl (w : World) : Keep5 w w := fun _ _ _ _ _ h => h
theorem Keep5.trans {a b c : World} (h : Keep5 a b) (k : Keep5 b c) : Keep5 a c := fun i x t fr ht hx => k i x t fr ht (h i x t fr ht hx)
theorem keep5_below {w w' : World} (h : Below w.heap.size w w') : Keep5 w w' := fun k c t fr _ hk => by
  have hlt : k < w.heap.size := (Array.getElem?_eq_some_iff.1 hk).1
  rw [h.block k hlt]; exact hk
theorem keep5_grown {w w' : World} {base n : Nat} {v : Value} {xs : List Value} (ho : w.ownsRow base 5 1 v n xs) (h : w.grownBy w' v.ownBlock) : Keep5 w w' := fun k c t fr ht hk => by
  have hlt : k < w.heap.size := (Array.getElem?_eq_some_iff.1 hk).1
  rw [h.block k hlt ?_]
  · exact hk
  · intro e
    rcases ho.2 with ⟨h0, _⟩ | ⟨g, cap, cur, hv, _, hg, _⟩
    · subst h0; simp [Value.ownBlock] at e
    · subst hv
      simp [Value.ownBlock] at e
      subst e
      rw [hg] at hk
      injection hk with hk
      injection hk with _ hk _
      exact ht hk.symm

theorem keep5_cell {w w' : World} {k : Nat} {c : Array Value} {t : TypeId} {fr : Nat × Nat} (h : Keep5 w w') (ht : t ≠ 5) (hk : w.heap[k]? = some (.cells c t fr)) (o : Nat) : w'.cell? ⟨k, o, none⟩ = w.cell? ⟨k, o, none⟩ := by
  have := h k c t fr ht hk
  exact World.cell?_of_block (w := w) (a := ⟨k, o, none⟩) (this.trans hk.symm)

/-- What an append to v leaves: the rest of memory; where the new slice lies. -/
def Gr (w : World) (v : Value) (w' : World) (v' : Value) : Prop := w.grownBy w' v.ownBlock ∧ (v'.ownBlock = v.ownBlock ∨ ∃ g, v'.ownBlock = some g ∧ w.heap.size ≤ g)

theorem Gr.refl (w : World) (v : Value) : Gr w v w v := ⟨⟨rfl, rfl, rfl, Nat.le_refl _, fun _ _ _ => rfl⟩, Or.inl rfl⟩
theorem Gr.trans {w w1 w2 : World} {v v1 v2 : Value} (h : Gr w v w1 v1) (k : Gr w1 v1 w2 v2) : Gr w v w2 v2 := by
  have hs := h.1.size
  refine ⟨⟨k.1.os.trans h.1.os, k.1.tape.trans h.1.tape, k.1.output.trans h.1.output, Nat.le_trans hs k.1.size, fun j hj hne => ?_⟩, ?_⟩
  · rw [k.1.block j (by omega) ?_, h.1.block j hj hne]
    rcases h.2 with e | ⟨g, e, hg⟩
    · rw [e]; exact hne
    · rw [e]; intro e2; injection e2 with e2; omega
  · rcases k.2 with e | ⟨g, e, hg⟩
    · rcases h.2 with e' | ⟨g, e', hg⟩
      · exact Or.inl (e.trans e')
      · exact Or.inr ⟨g, e.trans e', hg⟩
    · exact Or.inr ⟨g, e, by omega⟩
theorem Gr.below {w w' : World} (v : Value) (h : Below w.heap.size w w') : Gr w v w' v := ⟨⟨h.os, h.tape, h.output, h.size, fun k hk _ => h.block k hk⟩, Or.inl rfl⟩
theorem gr_append {w w2 : World} {o : Obj} {v v2 : Value} (hg : (w.alloc o).grownBy w2 v.ownBlock) (hat : v2.ownBlock = v.ownBlock ∨ v2.ownBlock = some (w.alloc o).heap.size) : Gr w v w2 v2 :=
  (Gr.below v (below_alloc w o)).trans ⟨hg, hat.imp id fun e => ⟨_, e, Nat.le_refl _⟩⟩
theorem gr_more {w w2 : World} {v v2 : Value} (hg : w.grownBy w2 v.ownBlock) (hat : v2.ownBlock = v.ownBlock ∨ v2.ownBlock = some w.heap.size) : Gr w v w2 v2 :=
  ⟨hg, hat.imp id fun e => ⟨_, e, Nat.le_refl _⟩⟩
theorem Gr.keep5 {w w' : World} {base n : Nat} {v v' : Value} {xs : List Value} (h : Gr w v w' v') (ho : w.ownsRow base 5 1 v n xs) : Keep5 w w' := keep5_grown ho h.1
/-- Another row. -/
theorem Gr.own {w w' : World} {base n : Nat} {e : TypeId} {sz : Nat} {v v' u : Value} {xs : List Value} (h : Gr w v w' v') (hu : w.ownsRow base e sz u n xs) (hne : u.ownBlock = none ∨ u.ownBlock ≠ v.ownBlock) : w'.ownsRow base e sz u n xs ∧ (u.ownBlock = none ∨ u.ownBlock ≠ v'.ownBlock) := by
  refine ⟨hu.kept h.1 hne, ?_⟩
  rcases hne with hne | hne
  · exact Or.inl hne
  · rcases h.2 with e | ⟨g, e, hg⟩
    · rw [e]; exact Or.inr hne
    · refine Or.inr fun e2 => ?_
      have := hu.lt g (e2.trans e)
      omega

theorem run_str_at {P : Program} (w : World) (base : Nat) (t u ty e : TypeId) (i : TypeInfo) (ht : P.underlying t = some (.slice e)) (hu : P.underlying u = some .string) (hi : P.info? e = some i) (hz : i.zero = some (.int .u8 0))
    (hsize : i.size = 1) (hby : i.bytes = 1) (v : Value) (n : Nat) (xs : List Value) (hown : w.ownsRow base e 1 v n xs) (s : ByteArray)
    (h63 : n + s.size ≤ maxLen) (hbytes : n + s.size ≤ 140737488355328) (v' : Value) (w' : World) (hr : (Builtin.append_ #[t, u] ty #[v, .string s]).run P w = .ok v' w') (hnil : v' = .slice none 0 0 ↔ v = .slice none 0 0 ∧ s.size = 0) :
    v'.ownBlock = v.ownBlock ∨ v'.ownBlock = some w.heap.size := by
  have hxl : xs.length = n := by simpa using hown.1
  have hsmall : n + s.size ≤ 9223372036854775807 := by simp only [maxLen] at h63; omega
  rcases hown.2 with ⟨rfl, rfl⟩ | ⟨g, cap, cur, rfl, hbg, hg, hnc, hcm, hcs, htake⟩
  · by_cases hm : s.size = 0
    · rw [hnil.2 ⟨rfl, hm⟩]; exact Or.inl rfl
    · have hr' := run_append_nil_string (P := P) w t u ty e i (.int .u8 0) ht hu hi hz s (by omega) (by omega) (by rw [hby]; exact (by omega))
      rw [hr] at hr'
      injection hr' with e1 e2
      rw [e1]; exact Or.inr rfl
  · by_cases hroom : n + s.size ≤ cap
    · have hcs' : cur.size = cap := by simpa using hcs
      have hr' := Lib.run_append_room_string (P := P) w t u ty e i ht hu hi hsize g n cap cur hg s hroom (by omega)
      rw [hr] at hr'
      injection hr' with e1 e2
      rw [e1]; exact Or.inl rfl
    · have holds : ∀ j u, xs[j]? = some u → w.cell? ((⟨g, 0, none⟩ : Addr).add j) = some u := hown.cells (g := g) rfl
      have hr' := Lib.run_append_grow_string (P := P) w t u ty e i (.int .u8 0) ht hu hi hz ⟨g, 0, none⟩ n cap xs (by rw [hsize]; simpa using hxl) holds s (by omega) (by omega) (by rw [hby]; exact growslice_fits (by omega) (by omega))
      rw [hr] at hr'
      injection hr' with e1 e2
      rw [e1]; exact Or.inr rfl

theorem wpList_str_at {P : Program} (w : World) {ops : Array Oper} {rest : List Oper} {o : Oper} {a : Act} {Q : Exit → Act → World → Prop} (hgd : o.guard = none) (sl x : Operand) (t u : TypeId)
    (ho : o.op = .call { callee := .builtin .append, args := #[sl, x], argTypes := #[t, u] })
    (base : Nat) (e : TypeId) (i : TypeInfo) (ht : P.underlying t = some (.slice e)) (hu : P.underlying u = some .string) (hi : P.info? e = some i) (hz : i.zero = some (.int .u8 0))
    (hsize : i.size = 1) (hby : i.bytes = 1)
    (v : Value) (n : Nat) (xs : List Value) (hs : a.eval sl = v) (hown : w.ownsRow base e 1 v n xs) (s : ByteArray) (hx : a.eval x = .string s)
    (h63 : n + s.size ≤ maxLen) (hbytes : n + s.size ≤ 140737488355328) (hbase : base ≤ w.heap.size)
    (h : ∀ v' w', w'.ownsRow base e 1 v' (n + s.size) (xs ++ Lib.strCells s) → w.grownBy w' v.ownBlock → (v'.ownBlock = v.ownBlock ∨ v'.ownBlock = some w.heap.size) → wpList P ops Q rest (a.put o.dst v') w') : wpList P ops Q (o :: rest) a w := by
  refine wpList_plain hgd fun K hK => ?_
  obtain ⟨v', w', hr, h2, h3, h4⟩ := Lib.run_append_own_string (P := P) w base t u o.type e i ht hu hi hz hsize hby v n xs hown s h63 hbytes hbase
  have h5 := run_str_at w base t u o.type e i ht hu hi hz hsize hby v n xs hown s h63 hbytes v' w' hr h4
  unfold Oper.wp execOp
  simp only [ho, resolve, invoke, builtin, Sem.run_bind, Sem.run_pure, Result.andThen_ok, List.map_toArray, List.map_cons, List.map_nil, hs, hx, hr]
  exact hK _ _ (h v' w' h2 h3 h5)

theorem pow28 : ∀ k : Nat, (2 : Int) ^ (8 * k) = 256 ^ k
  | 0 => rfl
  | k + 1 => by rw [show 8 * (k + 1) = 8 * k + 8 by omega, Int.pow_add, pow28 k, Int.pow_succ]; rfl

set_option maxRecDepth 100000 in
set_option maxHeartbeats 400000 in
theorem appNum_any (w0 w : World) (v : Value) (l : List Int) (n : Int) (size : Nat) (h : CurB w0 w v l) (_hn : 0 ≤ n) (_hn1 : n < 9223372036854775808) (hs : size ≤ 8) (hl : l.length ≤ 1048576) :
    Calls Tryd.prog 9 #[v, .int .i64 n, .int .i64 size] w fun e w' => ∃ v', e = .returned v' ∧ CurB w0 w' v' (l ++ num n size) ∧ Gr w v w' v' := by
  have HC := hide h
  clear h
  obtain ⟨i0, hi0, hz0, hz1, hz2⟩ := info_parts Tryd.info5
  go_enter Tryd.func9, Tryd.ntmps9
  go_wp2_with fail
  go_loopw [0, 7] (fun b i wr => ∃ (k : Nat) (m : List Int), k ≤ size ∧ i = .int .i64 ((k : Int) - 1) ∧ CurB w0 wr b m ∧ m.length + k = l.length + size ∧ m ++ num n k = l ++ num n size ∧ Gr w v wr b) (fun _ i _ => (intOf i + 1).toNat)
  case atStart => exact ⟨size, l, Nat.le_refl _, rfl, HC.out, rfl, rfl, Gr.refl _ _⟩
  case round =>
    obtain ⟨k, m, hk, rfl, hcur, hlen, heq, hkp⟩ := hrel
    have HKP := hide hkp
    clear hkp
    have HC2 := hide hcur
    have HEQ := hide heq
    clear hcur heq HC
    cases k with
    | zero =>
      have hneg : ¬ (0 : Int) ≤ ((0 : Nat) : Int) - 1 := by omega
      go_wp2
      go_ret
      exact ⟨_, rfl, by have := HEQ.out; rw [num, List.append_nil] at this; rw [← this]; exact HC2.out, HKP.out⟩
    | succ k =>
      rw [show ((k + 1 : Nat) : Int) - 1 = (k : Int) by omega]
      go_wp2_with (at_builtin; refine wpList_append_own_at _ rfl _ _ 24 rfl w0.heap.size 5 i0 (.int .u8 0) 1 1 Tryd.underlying24 hi0 hz0 hz1 hz2 rfl (by decide) _ _ _ rfl (HC2.out.2.alloc _) ⟨wr.heap.size, 0, none⟩ 1 1 [.int .u8 (n / 2 ^ (8 * k) % 256)] rfl rfl (cell_one_new _ _ _) (by intro u hu; simp at hu; subst hu; rfl) (by unfold maxLen; omega) (by omega) (by have := HC2.out.1.size; simp at this ⊢; omega) ?_; intro v3 w3 hown3 hgrow3 _ hat3; have HC3 := hide (curB_append HC2.out hown3 hgrow3); have HK3 := hide (HKP.out.trans (gr_append hgrow3 hat3)); clear hown3 hgrow3 hat3)
      go_roundw
      case rel => exact ⟨k, m ++ [n / 2 ^ (8 * k) % 256], by omega, by go_num, HC3.out, by rw [List.length_append, List.length_singleton]; omega, by have := HEQ.out; rw [num, ← pow28] at this; rw [List.append_assoc]; exact this, HK3.out⟩
      case measure => simp [intOf]

theorem strCells_tb (s : ByteArray) : Lib.strCells s = (tb s).map eB := by
  unfold Lib.strCells tb
  rw [List.map_map]
  rfl

set_option maxRecDepth 100000 in
set_option maxHeartbeats 400000 in
theorem appText_any (w0 w : World) (v : Value) (l : List Int) (x : ByteArray) (h : CurB w0 w v l) (hl : l.length ≤ 1048576) (hx : x.size ≤ 1048576) :
    Calls Tryd.prog 17 #[v, .string x] w fun e w' => ∃ v', e = .returned v' ∧ CurB w0 w' v' (l ++ (((x.size : Int) % 256) :: tb x)) ∧ Gr w v w' v' := by
  have HC := hide h
  clear h
  obtain ⟨i0, hi0, hz0, hz1, hz2⟩ := info_parts Tryd.info5
  go_enter Tryd.func17, Tryd.ntmps17
  go_wp2_with (first
    | (at_builtin; refine wpList_append_own_at _ rfl (.tmp 5) (.tmp 9) 24 rfl w0.heap.size 5 i0 (.int .u8 0) 1 1 Tryd.underlying24 hi0 hz0 hz1 hz2 rfl (by decide) _ _ _ rfl (HC.out.2.alloc _) ⟨w.heap.size, 0, none⟩ 1 1 [.int .u8 ((x.size : Int) % 256)] rfl rfl (cell_one_new _ _ _) (by intro u hu; simp at hu; subst hu; rfl) (by unfold maxLen; omega) (by omega) (by have := HC.out.1.size; simp at this ⊢; omega) ?_; intro v3 w3 hown3 hgrow3 _ hat3; have HC3 := hide (curB_append HC.out hown3 hgrow3); have HK3 := hide (gr_append hgrow3 hat3); clear hown3 hgrow3 hat3)
    | (at_builtin; refine wpList_str_at _ rfl (.tmp 10) (.tmp 11) 24 9 rfl w0.heap.size 5 i0 Tryd.underlying24 Tryd.underlying9 hi0 hz0 hz1 hz2 _ _ _ rfl HC3.out.2 x rfl (by unfold maxLen; simp; omega) (by simp; omega) (by exact HC3.out.1.size) ?_; intro v4 w4 hown4 hgrow4 hat4; rw [strCells_tb] at hown4; have HC4 := hide (curB_more HC3.out (tb_len x).symm hown4 hgrow4); have HK4 := hide (HK3.out.trans (gr_more hgrow4 hat4)); clear hown4 hgrow4 hat4))
  go_ret
  exact ⟨_, rfl, by have := HC4.out; rwa [List.append_assoc] at this, HK4.out⟩

set_option maxRecDepth 100000 in
set_option maxHeartbeats 400000 in
theorem appEntry_any (w0 w : World) (v : Value) (l : List Int) (e : Ent) (h : CurB w0 w v l) (hl : l.length ≤ 524288) (he : isE e = true) :
    Calls Tryd.prog 10 #[v, eV e] w fun r w' => ∃ v', r = .returned v' ∧ CurB w0 w' v' (l ++ ent e) ∧ Gr w v w' v' := by
  unfold isE at he
  simp only [Bool.and_eq_true, decide_eq_true_iff] at he
  obtain ⟨⟨⟨⟨a, b⟩, c⟩, d⟩, f⟩ := he
  obtain ⟨s, t, x⟩ := e
  simp only at a b c d f
  have HC : Hid (CurB w0 (w.alloc (.cells #[.int .i64 s, .int .i64 t, .string x] 31)) v l) := ⟨h.1.trans ((below_alloc w _).mono h.1.size), h.2.alloc _⟩
  have hblk : Hid ((w.alloc (.cells #[.int .i64 s, .int .i64 t, .string x] 31)).heap[w.heap.size]? = some (.cells #[.int .i64 s, .int .i64 t, .string x] 31 (0, 0))) := by
    show (w.heap.push _)[w.heap.size]? = _
    rw [Array.getElem?_push, if_pos rfl]
  have HK0 := hide (Gr.below v (below_alloc w (.cells #[.int .i64 s, .int .i64 t, .string x] 31)))
  have k1 : (w.alloc (.cells #[.int .i64 s, .int .i64 t, .string x] 31)).cell? ⟨w.heap.size, 1, none⟩ = some (.int .i64 t) := by simp
  have k2 : (w.alloc (.cells #[.int .i64 s, .int .i64 t, .string x] 31)).cell? ⟨w.heap.size, 2, none⟩ = some (.string x) := by simp
  clear h
  go_enter Tryd.func10, Tryd.ntmps10
  go_wp2_with fail
  generalize w.alloc (.cells #[.int .i64 s, .int .i64 t, .string x] 31) = W at *
  generalize w.heap.size = nb at *
  refine (appNum_any w0 W v l s 8 HC.out a (by omega) (by omega) (by omega)).mono ?_
  rintro r w1 ⟨v1, rfl, hc1, hg1⟩
  have hk1 := hg1.keep5 HC.out.2
  have m1 : w1.cell? ⟨nb, 1, none⟩ = some (.int .i64 t) := (keep5_cell hk1 (by decide) hblk.out 1).trans k1
  have m2 : w1.cell? ⟨nb, 2, none⟩ = some (.string x) := (keep5_cell hk1 (by decide) hblk.out 2).trans k2
  have hb1 := hide (hk1 _ _ _ _ (by decide) hblk.out)
  have HC1 := hide hc1
  have HK1 := hide (HK0.out.trans hg1)
  clear hc1 hk1 hg1 k1 k2 HC HK0 hblk
  go_wp2_with fail
  refine (appNum_any w0 w1 v1 (l ++ num s 8) t 8 HC1.out c (by omega) (by omega) (by simp [num_len]; omega)).mono ?_
  rintro r w2 ⟨v2, rfl, hc2, hg2⟩
  have hk2 := hg2.keep5 HC1.out.2
  have n2 : w2.cell? ⟨nb, 2, none⟩ = some (.string x) := (keep5_cell hk2 (by decide) hb1.out 2).trans m2
  have HC2 := hide hc2
  have HK2 := hide (HK1.out.trans hg2)
  clear hc2 hk2 hg2 m1 m2 HC1 HK1 hb1
  go_wp2_with fail
  refine (appText_any w0 w2 v2 ((l ++ num s 8) ++ num t 8) x HC2.out (by simp [num_len]; omega) (by omega)).mono ?_
  rintro r w3 ⟨v3, rfl, hc3, hk3⟩
  have HC3 := hide hc3
  have HK3 := hide (HK2.out.trans hk3)
  clear hc3 hk3
  go_wp2
  go_ret
  exact ⟨_, rfl, by have := HC3.out; simp only [List.append_assoc] at this; exact this, HK3.out⟩
end Go.Proofs.YtkncboinfcnklaaDoor
