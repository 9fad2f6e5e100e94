import Derived.Test.YtkncboinfcnklabGreatDoorQ23
import Derived.Test.YtkncboinfcnklabGreatDoorQ20
namespace Go.Proofs.YtkncboinfcnklabGreatDoor
open Go.RowKit Go.Deep Go.Shelf Go.Proofs.YtkncboinfcnklabGreatDoor.Mth

/-- In the midst of a journal's records. -/
structure PJ (w wr : World) (c : Nat) (es : List Ent) (v : Value) : Prop where
  bel : Below w.heap.size w wr
  b2 : wr.heap[w.heap.size]? = some (Obj.cells #[.int .i64 0, .slice none 0 0] 135 (0, 0))
  b4 : wr.heap[w.heap.size + 1]? = some (Obj.cells #[.func (.func 80) #[] #[], .func (.func 81) #[] #[]] 156 (0, 0))
  b5 : wr.heap[w.heap.size + 1 + 1]? = some (Obj.cells #[.int .i64 (c : Int), v] 135 (0, 0))
  row : wr.ownsRow w.heap.size 49 3 v es.length (es.flatMap eC)
theorem PJ.step {w wr w' : World} {c c' : Nat} {es es' : List Ent} {v v' : Value} (h : PJ w wr c es v) (ht : Tch (fun k => k = w.heap.size + 1 + 1 ∨ some k = v.ownBlock) wr w') (hb : w'.heap[w.heap.size + 1 + 1]? = some (Obj.cells #[.int .i64 (c' : Int), v'] 135 (0, 0))) (hr : w'.ownsRow w.heap.size 49 3 v' es'.length (es'.flatMap eC)) : PJ w w' c' es' v' := by
  have hne : ∀ {k : Nat} {C : Array Value} {T : TypeId}, wr.heap[k]? = some (Obj.cells C T (0, 0)) → T ≠ 49 → some k ≠ v.ownBlock := fun hk hT q => by
    obtain ⟨_, _, D, hD⟩ := own_block h.row q
    exact hT (cells_ty hk hD)
  refine ⟨⟨ht.os.trans h.bel.os, ht.tape.trans h.bel.tape, ht.output.trans h.bel.output, Nat.le_trans h.bel.size ht.size, fun k hk => ?_⟩, ?_, ?_, hb, hr⟩
  · rw [ht.block k (Nat.lt_of_lt_of_le hk h.bel.size) (fun q => ?_), h.bel.block k hk]
    rcases q with q | q
    · omega
    · have := (own_block h.row q).1; omega
  · rw [ht.block _ (Array.getElem?_eq_some_iff.1 h.b2).1 (fun q => ?_)]
    · exact h.b2
    · rcases q with q | q
      · omega
      · exact hne h.b2 (by decide) q
  · rw [ht.block _ (Array.getElem?_eq_some_iff.1 h.b4).1 (fun q => ?_)]
    · exact h.b4
    · rcases q with q | q
      · omega
      · exact hne h.b4 (by decide) q

theorem PJ.below {w wr w' : World} {c : Nat} {es : List Ent} {v : Value} (h : PJ w wr c es v) (hb : Below wr.heap.size wr w') : PJ w w' c es v :=
  ⟨h.bel.trans (hb.mono h.bel.size), (hb.block _ (Array.getElem?_eq_some_iff.1 h.b2).1).trans h.b2, (hb.block _ (Array.getElem?_eq_some_iff.1 h.b4).1).trans h.b4, (hb.block _ (Array.getElem?_eq_some_iff.1 h.b5).1).trans h.b5, Rl.own_belowR h.row hb⟩

theorem rcL_drop (rs : List Rc) (t : List Int) (j : Nat) : (rcL rs ++ t).drop (rcL (rs.take j)).length = rcL (rs.drop j) ++ t := by
  have e : rcL rs = rcL (rs.take j) ++ rcL (rs.drop j) := by
    unfold rcL
    rw [← List.flatMap_append, List.take_append_drop]
  rw [e, List.append_assoc, List.drop_left]
theorem rc_take {rs : List Rc} {j : Nat} (h : j < rs.length) : rs.take (j + 1) = rs.take j ++ [rs[j]] := by
  rw [List.take_succ_eq_append_getElem h]
theorem rcP_es {rs : List Rc} : (rcP rs).2.length ≤ rs.length := by
  have key : ∀ (l : List Rc) (p : Nat × List Ent), (l.foldl rcStep p).2.length ≤ p.2.length + l.length := fun l => by
    induction l with
    | nil => intro p; exact Nat.le_refl _
    | cons r l ih =>
      intro p
      refine Nat.le_trans (ih (rcStep p r)) ?_
      cases r <;> simp [rcStep] <;> omega
  have := key rs (0, [])
  simp only [List.length_nil, Nat.zero_add] at this
  exact this
theorem rcP_mono {rs : List Rc} {j : Nat} : (rcP (rs.take j)).1 ≤ (rcP rs).1 := by
  have key : ∀ (l : List Rc) (p : Nat × List Ent), p.1 ≤ (l.foldl rcStep p).1 := fun l => by
    induction l with
    | nil => intro p; exact Nat.le_refl _
    | cons r l ih =>
      intro p
      refine Nat.le_trans ?_ (ih (rcStep p r))
      cases r <;> simp [rcStep]
  have e : rcP rs = (rs.drop j).foldl rcStep (rcP (rs.take j)) := by
    unfold rcP
    rw [← List.foldl_append, List.take_append_drop]
  rw [e]
  exact key _ _

set_option maxRecDepth 100000 in
set_option maxHeartbeats 8000000 in
/-- What the records tell. -/
theorem readJ_any (r : ByteArray) (rs : List Rc) (t : List Int) (hr : tb r = rcL rs ++ t) (ht : Torn t) (hok : ∀ x ∈ rs, x.ok) (hn : rs.length ≤ 1000000) (hrs : r.size ≤ 1099511627776) (hc : (rcP rs).1 ≤ 1000000000000) (w : World) :
    Calls Tryz.prog 58 #[.string r] w fun e w' => ∃ v, e = .returned (.tuple #[.agg #[.int .i64 ((rcP rs).1 : Int), v], .int .i64 ((rcL rs).length : Int)]) ∧ w'.ownsRow w.heap.size 49 3 v (rcP rs).2.length ((rcP rs).2.flatMap eC) ∧ Below w.heap.size w w' := by
  have hlen := tb_len r
  rw [hr, List.length_append] at hlen
  have SL : Hid (∀ j, j ≤ rs.length → ∀ W, (Instr.slice 9 (.string r) (some (.int .i64 ((rcL (rs.take j)).length : Int))) none none).run Tryz.prog W = .ok (.string (strOfNums (rcL (rs.drop j) ++ t))) W) := fun j hj W => by
    have h1 := rcL_drop rs t j
    have h2 : (rcL (rs.take j)).length ≤ r.size := by
      have : (rcL (rs.take j)).length + (rcL (rs.drop j)).length = (rcL rs).length := by
        rw [← List.length_append]
        unfold rcL
        rw [← List.flatMap_append, List.take_append_drop]
      omega
    rw [slice_lo r _ h2 W, hr, h1]
  have HT : Hid (∀ j, j ≤ rs.length → tb (strOfNums (rcL (rs.drop j) ++ t)) = rcL (rs.drop j) ++ t ∧ (strOfNums (rcL (rs.drop j) ++ t)).size ≤ 1099511627776) := fun j hj => by
    have hb : Bts (rcL (rs.drop j) ++ t) := by
      rw [← rcL_drop rs t j, ← hr]
      exact fun x hx => tb_bts r x (List.mem_of_mem_drop hx)
    have e := tb_of hb
    refine ⟨e, ?_⟩
    have := tb_len (strOfNums (rcL (rs.drop j) ++ t))
    have h5 := congrArg List.length (rcL_drop rs t j)
    rw [List.length_drop, ← hr, tb_len] at h5
    rw [e] at this
    omega
  have CF : Hid (∀ j (hj : j < rs.length) W, Calls Tryz.prog 82 #[.string (strOfNums (rcL (rs.drop j) ++ t))] W fun e w' => e = .returned (.tuple #[.int .u8 (rs[j]).k, .string (rs[j]).s, .bool true]) ∧ Below W.heap.size W w') := fun j hj W => by
    obtain ⟨h1, h2⟩ := HT.out j (by omega)
    refine first_yes _ _ _ (rcL (rs.drop (j + 1)) ++ t) ?_ (by have := Rc.size (hok _ (List.getElem_mem hj)); omega) h2 W
    rw [h1, List.drop_eq_getElem_cons hj]
    unfold rcL
    rw [List.flatMap_cons]
    simp [Rc.l]
  have CN : Hid (∀ W, Calls Tryz.prog 82 #[.string (strOfNums (rcL (rs.drop rs.length) ++ t))] W fun e w' => e = .returned (.tuple #[.int .u8 0, .string ⟨#[]⟩, .bool false]) ∧ w' = W) := fun W => by
    obtain ⟨h1, h2⟩ := HT.out rs.length (Nat.le_refl _)
    have h3 := tb_len (strOfNums (rcL (rs.drop rs.length) ++ t))
    have e0 : rcL (rs.drop rs.length) ++ t = t := by rw [List.drop_length]; rfl
    rw [e0] at h1 h3 ⊢
    rw [h1] at h3
    rcases ht with q | ⟨n, q1, q2, q3, q4⟩
    · exact first_none _ (by omega) W
    · exact first_short _ n (by omega) (by rw [h1]; exact q1) (by omega) q2 W
  have HST : Hid (∀ j (hj : j < rs.length), rcP (rs.take (j + 1)) = rcStep (rcP (rs.take j)) rs[j] ∧ (rcL (rs.take (j + 1))).length = (rcL (rs.take j)).length + (2 + (rs[j]).s.size) ∧ (rs[j]).ok ∧ (rcP (rs.take j)).1 ≤ 1000000000000 ∧ (rcP (rs.take j)).2.length ≤ 1000000) := fun j hj => by
    refine ⟨by rw [rc_take hj, rcP_snoc], by rw [rc_take hj, rcL_snoc, List.length_append, Rc.l_len], hok _ (List.getElem_mem hj), Nat.le_trans rcP_mono hc, ?_⟩
    have := rcP_es (rs := rs.take j)
    rw [List.length_take] at this
    omega
  have HLE : Hid (∀ j, j ≤ rs.length → (rcL (rs.take j)).length ≤ 1099511627776) := fun j hj => by
    have : (rcL (rs.take j)).length + (rcL (rs.drop j)).length = (rcL rs).length := by
      rw [← List.length_append]
      unfold rcL
      rw [← List.flatMap_append, List.take_append_drop]
    omega
  clear hr ht hok hlen hc
  go_enter Tryz.func58, Tryz.ntmps58
  go_wp2_with fail
  obtain ⟨W3, hW3⟩ : ∃ W3, W3 = ((w.alloc (Obj.cells #[.int .i64 0, .slice none 0 0] 135)).alloc (Obj.cells #[.func (.func 80) #[] #[], .func (.func 81) #[] #[]] 156)).alloc (Obj.cells #[.int .i64 0, .slice none 0 0] 135) := ⟨_, rfl⟩
  rw [← hW3]
  have hb1 := below_allocG w (Obj.cells #[.int .i64 0, .slice none 0 0] 135)
  have hb2 := below_allocG (w.alloc (Obj.cells #[.int .i64 0, .slice none 0 0] 135)) (Obj.cells #[.func (.func 80) #[] #[], .func (.func 81) #[] #[]] 156)
  have hb3 := below_allocG ((w.alloc (Obj.cells #[.int .i64 0, .slice none 0 0] 135)).alloc (Obj.cells #[.func (.func 80) #[] #[], .func (.func 81) #[] #[]] 156)) (Obj.cells #[.int .i64 0, .slice none 0 0] 135)
  have k2 : W3.heap[w.heap.size]? = some (Obj.cells #[.int .i64 0, .slice none 0 0] 135 (0, 0)) := by rw [hW3]; exact old_blk _ (old_blk _ (new_blk _ _ _))
  have k4 : W3.heap[w.heap.size + 1]? = some (Obj.cells #[.func (.func 80) #[] #[], .func (.func 81) #[] #[]] 156 (0, 0)) := by
    have := new_blk (w.alloc (Obj.cells #[.int .i64 0, .slice none 0 0] 135)) #[.func (.func 80) #[] #[], .func (.func 81) #[] #[]] 156
    rw [World.size_alloc] at this
    rw [hW3]
    exact old_blk _ this
  have k5 : W3.heap[w.heap.size + 1 + 1]? = some (Obj.cells #[.int .i64 0, .slice none 0 0] 135 (0, 0)) := by
    have := new_blk ((w.alloc (Obj.cells #[.int .i64 0, .slice none 0 0] 135)).alloc (Obj.cells #[.func (.func 80) #[] #[], .func (.func 81) #[] #[]] 156)) #[.int .i64 0, .slice none 0 0] 135
    rw [World.size_alloc, World.size_alloc] at this
    rw [hW3]
    exact this
  have hB3 : Below w.heap.size w W3 := by
    rw [hW3]
    exact (hb1.trans (hb2.mono hb1.size)).trans (hb3.mono (hb1.trans (hb2.mono hb1.size)).size)
  have HP0 : Hid (PJ w W3 0 [] (.slice none 0 0)) := ⟨hB3, k2, k4, k5, World.ownsRow_nil _ _ _ _⟩
  clear hb1 hb2 hb3 hW3 hB3 k2 k4 k5
  go_loopw [6] (fun x wr => ∃ (j : Nat) (v : Value), j ≤ rs.length ∧ x = .int .i64 ((rcL (rs.take j)).length : Int) ∧ PJ w wr (rcP (rs.take j)).1 (rcP (rs.take j)).2 v) (fun x _ => (rcL rs).length - (intOf x).toNat)
  case atStart => exact ⟨0, _, Nat.zero_le _, rfl, HP0.out⟩
  case round =>
    obtain ⟨j, v, hj, rfl, hp⟩ := hrel
    have sl := SL.out j hj
    have hle := HLE.out j hj
    have HPJ := hide hp
    by_cases hlt : j < rs.length
    · have CF2 := hide (CF.out j hlt)
      obtain ⟨e1, e2, ok, hc1, hn1⟩ := HST.out j hlt
      have hle2 := HLE.out (j + 1) hlt
      have hme : (rcL (rs.take (j + 1))).length ≤ (rcL rs).length := by
        have h1 := rcL_drop rs [] (j + 1)
        have h2 := congrArg List.length h1
        rw [List.length_drop, List.append_nil, List.append_nil] at h2
        by_cases q : (rcL (rs.take (j + 1))).length ≤ (rcL rs).length
        · exact q
        · exfalso
          have : rcL rs = rcL (rs.take (j + 1)) ++ rcL (rs.drop (j + 1)) := by
            unfold rcL
            rw [← List.flatMap_append, List.take_append_drop]
          have h3 := congrArg List.length this
          rw [List.length_append] at h3
          omega
      have HE1 := hide e1
      have HE2 := hide e2
      have hsz := Rc.size ok
      rw [e2] at hle2 hme
      obtain ⟨sb, hsb⟩ : ∃ sb, sb = strOfNums (rcL (rs.drop j) ++ t) := ⟨_, rfl⟩
      rw [← hsb] at sl CF2
      clear hsb hp e1 e2 CF CN SL HT HST HLE
      generalize hx : rs[j] = x at *
      clear hx
      obtain ⟨p, hpp⟩ : ∃ p, p = rcP (rs.take j) := ⟨_, rfl⟩
      rw [← hpp] at HE1 hc1 hn1 HPJ
      clear hpp
      generalize hat : (rcL (rs.take j)).length = a at *
      clear hat
      cases x with
      | lay s =>
        simp only [Rc.k, Rc.s] at CF2 HE2 hsz hle2 hme
        have CL : Hid (∀ W, Below wr.heap.size wr W → Calls Tryz.prog 80 #[ptrV (w.heap.size + 1 + 1), .string s] W fun e w' => e = .returned (.tuple #[]) ∧ ∃ v', PJ w w' (rcStep p (.lay s)).1 (rcStep p (.lay s)).2 v') := fun W hW => by
          have hp := HPJ.out.below hW
          refine (layJ_any hp.b5 hp.row hp.bel.size s (by omega) hn1).mono ?_
          rintro e w' ⟨rfl, v', f1, f2, f3⟩
          exact ⟨rfl, v', hp.step f3 f1 f2⟩
        have F4 : Hid (∀ W, Below wr.heap.size wr W → W.cell? ⟨w.heap.size + 1, 0, none⟩ = some (.func (.func 80) #[] #[])) := fun W hW => (cell_of (j := 0) (HPJ.out.below hW).b4 rfl).1
        go_wp2_with (first
          | (go_at_call 82; refine (CF2.out _).mono ?_; rintro e w1 ⟨rfl, hb1⟩; have x4 := F4.out w1 hb1; have CL2 := hide (CL.out w1 hb1); clear hb1)
          | (go_at_call 80; refine CL2.out.mono ?_; rintro e w2 ⟨rfl, v2, hp2⟩; have HP2 := hide hp2; clear hp2))
        go_roundw
        case rel => exact ⟨j + 1, v2, hlt, by rw [HE2.out, Int.natCast_add, Int.natCast_add]; rfl, by rw [HE1.out]; exact HP2.out⟩
        case measure => simp [intOf]; omega
      | tick n =>
        simp only [Rc.k, Rc.s] at CF2 HE2 hsz hle2 hme
        have CL : Hid (∀ W, Below wr.heap.size wr W → Calls Tryz.prog 81 #[ptrV (w.heap.size + 1 + 1), .string (itoaB (n : Int))] W fun e w' => e = .returned (.tuple #[]) ∧ ∃ v', PJ w w' (rcStep p (.tick n)).1 (rcStep p (.tick n)).2 v') := fun W hW => by
          have hp := HPJ.out.below hW
          refine (tickJ_any hp.b5 n ok hc1).mono ?_
          rintro e w' ⟨rfl, f1, f2⟩
          refine ⟨rfl, v, hp.step (f2.mono (fun k _ q => Or.inl q)) f1 (own_same hp.row (fun g hg => f2.block g (own_block hp.row hg).2.1 (fun q => ?_)))⟩
          obtain ⟨_, _, D, hD⟩ := own_block hp.row hg
          rw [q] at hD
          exact absurd (cells_ty hD hp.b5) (by decide)
        have F4 : Hid (∀ W, Below wr.heap.size wr W → W.cell? ⟨w.heap.size + 1, 1, none⟩ = some (.func (.func 81) #[] #[])) := fun W hW => (cell_of (j := 1) (HPJ.out.below hW).b4 rfl).1
        generalize itoaB (n : Int) = s at *
        go_wp2_with (first
          | (go_at_call 82; refine (CF2.out _).mono ?_; rintro e w1 ⟨rfl, hb1⟩; have x4 := F4.out w1 hb1; have CL2 := hide (CL.out w1 hb1); clear hb1)
          | (go_at_call 81; refine CL2.out.mono ?_; rintro e w2 ⟨rfl, v2, hp2⟩; have HP2 := hide hp2; clear hp2))
        go_roundw
        case rel => exact ⟨j + 1, v2, hlt, by rw [HE2.out, Int.natCast_add, Int.natCast_add]; rfl, by rw [HE1.out]; exact HP2.out⟩
        case measure => simp [intOf]; omega
    · obtain rfl : j = rs.length := by omega
      obtain ⟨sb, hsb⟩ : ∃ sb, sb = strOfNums (rcL (rs.drop rs.length) ++ t) := ⟨_, rfl⟩
      rw [← hsb] at sl CN
      clear hsb CF SL HT HST HLE
      rw [List.take_length] at hp sl hle HPJ ⊢
      obtain ⟨p0, _⟩ := cell_of (j := 0) (u := .int .i64 ((rcP rs).1 : Int)) hp.b5 rfl
      obtain ⟨p1, _⟩ := cell_of (j := 1) (u := v) hp.b5 rfl
      obtain ⟨q0, f0⟩ := cell_of (j := 0) (u := .int .i64 0) hp.b2 rfl
      obtain ⟨q1, f1⟩ := cell_of (j := 1) (u := .slice none 0 0) hp.b2 rfl
      obtain ⟨va, vc, hva, _, _⟩ := own_slice hp.row
      clear hp
      subst hva
      go_wp2_with (first | (go_at_call 82; refine (CN.out _).mono ?_; rintro e w' ⟨rfl, rfl⟩))
      have hk5 := setCell_blk (j := 0) (v := .int .i64 ((rcP rs).1 : Int)) HPJ.out.b2
      have hk6 := setCell_blk (j := 1) (v := .slice va (rcP rs).2.length vc) hk5
      have hB6 := below_set (j := 1) (v := .slice va (rcP rs).2.length vc) (below_set (j := 0) (v := .int .i64 ((rcP rs).1 : Int)) HPJ.out.bel (Nat.le_refl _)) (Nat.le_refl _)
      have ho6 := own_set_other (o := 1) (y := .slice va (rcP rs).2.length vc) (own_set_other (o := 0) (y := .int .i64 ((rcP rs).1 : Int)) HPJ.out.row HPJ.out.b2 (by decide)) hk5 (by decide)
      have hld := run_loadVar_row (P := Tryz.prog) _ w.heap.size 135 135 _ _ _ hk6 Tryz.underlying135 rfl Tryz.sizePs
      (try simp only [Exit.inBlock, Exit.then])
      refine bodyPost_ret (v := .tuple #[.agg #[.int .i64 ((rcP rs).1 : Int), .slice va (rcP rs).2.length vc], .int .i64 ((rcL rs).length : Int)]) ?_ rfl ⟨_, rfl, ho6, hB6⟩
      rw [results_cell_tmp rfl]
      simp [asAddr, Result.andThen, hld]
end Go.Proofs.YtkncboinfcnklabGreatDoor

namespace Go.Proofs.YtkncboinfcnklabGreatDoor
open Go.RowKit Go.Deep Go.Shelf Go.Proofs.YtkncboinfcnklabGreatDoor.Mth

/-- A disk that holds a journal, a draft, or none. -/
def JD (fs : List Fl) : Prop := ∀ f ∈ fs, f.name = jnm ∨ f.name = dnm
theorem JD.wo {fs : List Fl} (h : JD fs) : wo jnm (wo dnm fs) = [] := by
  unfold Go.Proofs.YtkncboinfcnklabGreatDoor.wo
  rw [List.filter_filter, List.filter_eq_nil_iff]
  intro f hf
  rcases h f hf with q | q <;> simp [q]
theorem wo_at (x : ByteArray) (fs : List Fl) : At (wo x fs) x (-1) := Or.inl ⟨rfl, fun j hj => by
  have hm : (wo x fs).getD j fl0 ∈ wo x fs := by rw [← List.getElem_eq_getD (h := hj)]; exact List.getElem_mem _
  have := (List.mem_filter.1 hm).2
  simpa using this⟩
theorem snoc_at {x : ByteArray} {fs : List Fl} (f : Fl) (hf : f.name = x) : At (wo x fs ++ [f]) x ((wo x fs).length : Int) := Or.inr ⟨(wo x fs).length, by simp, rfl, by simp [List.getD, hf], fun j hj => by
  have h1 : (wo x fs ++ [f]).getD j fl0 = (wo x fs).getD j fl0 := by simp [List.getD, List.getElem?_append_left hj]
  rw [h1]
  have hm : (wo x fs).getD j fl0 ∈ wo x fs := by rw [← List.getElem_eq_getD (h := hj)]; exact List.getElem_mem _
  have := (List.mem_filter.1 hm).2
  simpa using this⟩

set_option maxRecDepth 100000 in
set_option maxHeartbeats 4000000 in
theorem rewrite_ok {w : World} {B b d : Nat} {fs : List Fl} {left : Int} {fv : Value} (h : St 82 87 w B b fs left fv) (hp : Ptr 104 w d b) (hB : B ≤ w.heap.size) (hlf : left = -1 ∨ 4 ≤ left) (h2 : left < 9223372036854775808) (hfs : JD fs) (hlen : fs.length ≤ 1000) (r : ByteArray) (hr : r.size ≤ 1099511627776) :
    Calls Tryz.prog 59 #[ptrV d, .string r] w fun e w' => e = .returned (.bool true) ∧ ∃ fv', Stp 82 87 B b w w' fv (jf r r.size) (decL (decL (decL (decL left)))) fv' := by
  have hdl : ∀ l : Int, (l = -1 → decL l = -1) ∧ (0 < l → decL l = l - 1) := fun l => by unfold decL; constructor <;> intro q <;> split <;> omega
  have hwl := wo_len dnm fs
  have HP : Hid (∀ {w' : World} {fs' : List Fl} {l : Int} {fv' : Value}, Stp 82 87 B b w w' fv fs' l fv' → Ptr 104 w' d b ∧ B ≤ w'.heap.size) := fun hs => ⟨hp.keep h hs.tch (by decide) (by decide), Nat.le_trans hB hs.tch.size⟩
  have C1 : Hid (Calls Tryz.prog 83 #[ptrV d, .string dnm] w fun e w' => e = .returned (.bool true) ∧ ∃ fv', Stp 82 87 B b w w' fv (wo dnm fs) (decL left) fv') := apiRemove_yes h hp hB (by omega) h2 (by omega) (by omega) dnm
  have C2 : Hid (∀ W fv1, Stp 82 87 B b w W fv (wo dnm fs) (decL left) fv1 → Calls Tryz.prog 84 #[ptrV d, .string dnm, .string r] W fun e w' => e = .returned (.bool true) ∧ ∃ fv', Stp 82 87 B b w w' fv (wo dnm fs ++ [⟨dnm, r, 0⟩]) (decL (decL left)) fv') := by
    intro W fv1 hs
    obtain ⟨hp1, hB1⟩ := HP.out hs
    have := hdl left
    refine (apiAppend_yes hs.st hp1 hB1 (by omega) (by omega) (by omega) (by omega) dnm r (-1) (wo_at _ _) (by show (⟨#[]⟩ : ByteArray).size + r.size ≤ _; have : (⟨#[]⟩ : ByteArray).size = 0 := rfl; omega)).mono ?_
    rintro e w' ⟨rfl, fv', hs'⟩
    refine ⟨rfl, fv', hs.trans ?_⟩
    have e1 : aApp (wo dnm fs) dnm r (-1) = wo dnm fs ++ [⟨dnm, r, 0⟩] := by
      unfold aApp
      rw [if_pos (by omega), show (⟨#[]⟩ : ByteArray) ++ r = r from tb_inj (by rw [tb_append]; rfl)]
    rw [e1] at hs'
    exact hs'
  have C3 : Hid (∀ W fv1, Stp 82 87 B b w W fv (wo dnm fs ++ [⟨dnm, r, 0⟩]) (decL (decL left)) fv1 → Calls Tryz.prog 85 #[ptrV d, .string dnm] W fun e w' => e = .returned (.bool true) ∧ ∃ fv', Stp 82 87 B b w w' fv (wo dnm fs ++ [⟨dnm, r, r.size⟩]) (decL (decL (decL left))) fv') := by
    intro W fv1 hs
    obtain ⟨hp1, hB1⟩ := HP.out hs
    have h3 := hdl left
    have h4 := hdl (decL left)
    refine (apiSync_yes hs.st hp1 (by omega) (by omega) (by omega) dnm ((wo dnm fs).length : Int) (snoc_at _ rfl)).mono ?_
    rintro e w' ⟨rfl, fv', hs'⟩
    refine ⟨rfl, fv', hs.trans ?_⟩
    have e1 : aSync (wo dnm fs ++ [⟨dnm, r, 0⟩]) ((wo dnm fs).length : Int) = wo dnm fs ++ [⟨dnm, r, r.size⟩] := by
      unfold aSync setS
      rw [if_neg (by omega), Int.toNat_natCast]
      simp [List.getD]
    rw [e1] at hs'
    exact hs'
  have C4 : Hid (∀ W fv1, Stp 82 87 B b w W fv (wo dnm fs ++ [⟨dnm, r, r.size⟩]) (decL (decL (decL left))) fv1 → Calls Tryz.prog 86 #[ptrV d, .string dnm, .string jnm] W fun e w' => e = .returned (.bool true) ∧ ∃ fv', Stp 82 87 B b w w' fv (jf r r.size) (decL (decL (decL (decL left)))) fv') := by
    intro W fv1 hs
    obtain ⟨hp1, hB1⟩ := HP.out hs
    have h3 := hdl left
    have h4 := hdl (decL left)
    have h5 := hdl (decL (decL left))
    refine (apiRename_yes hs.st hp1 hB1 (by omega) (by omega) (by omega) (by simp; omega) dnm jnm (wo dnm fs).length (snoc_at _ rfl) (by simp) dnm_ne).mono ?_
    rintro e w' ⟨rfl, fv', hs'⟩
    refine ⟨rfl, fv', hs.trans ?_⟩
    have e1 : wo jnm (wo dnm (wo dnm fs ++ [(⟨dnm, r, r.size⟩ : Fl)])) = [] := by
      rw [wo_snoc_yes (x := dnm) (f := (⟨dnm, r, r.size⟩ : Fl)) rfl]
      have : wo dnm (wo dnm fs) = wo dnm fs := by
        unfold wo
        rw [List.filter_filter]
        congr 1
        funext f
        simp
      rw [this]
      exact hfs.wo
    have e2 : (wo dnm fs ++ [(⟨dnm, r, r.size⟩ : Fl)]).getD (wo dnm fs).length fl0 = ⟨dnm, r, r.size⟩ := by simp [List.getD]
    rw [e1, e2] at hs'
    exact hs'
  clear h hp HP hfs
  unfold dnm at C1 C2 C3 C4
  unfold jnm at C4
  go_enter Tryz.func59, Tryz.ntmps59
  go_wp2_with (first
    | (go_at_call 83; refine C1.out.mono ?_; rintro e w1 ⟨rfl, fv1, hs1⟩; have H1 := hide hs1; clear hs1)
    | (go_at_call 84; refine (C2.out _ _ H1.out).mono ?_; rintro e w2 ⟨rfl, fv2, hs2⟩; have H2 := hide hs2; clear hs2)
    | (go_at_call 85; refine (C3.out _ _ H2.out).mono ?_; rintro e w3 ⟨rfl, fv3, hs3⟩; have H3 := hide hs3; clear hs3)
    | (go_at_call 86; refine (C4.out _ _ H3.out).mono ?_; rintro e w4 ⟨rfl, fv4, hs4⟩; have H4 := hide hs4; clear hs4))
  go_ret
  exact ⟨rfl, fv4, H4.out⟩
end Go.Proofs.YtkncboinfcnklabGreatDoor

namespace Go.Proofs.YtkncboinfcnklabGreatDoor
open Go.RowKit Go.Deep Go.Shelf Go.Proofs.YtkncboinfcnklabGreatDoor.Mth

theorem rw_rem {w : World} {B b d : Nat} {fs : List Fl} {left : Int} {fv : Value} (h : St 82 87 w B b fs left fv) (hp : Ptr 104 w d b) (hB : B ≤ w.heap.size) (h1 : 1 ≤ left) (h2 : left ≤ 3) (hlen : fs.length ≤ 1000) :
    Calls Tryz.prog 83 #[ptrV d, .string dnm] w fun e w' => e = .returned (.bool true) ∧ ∃ fv', Stp 82 87 B b w w' fv (wo dnm fs) (left - 1) fv' := by
  refine (apiRemove_yes h hp hB (by omega) (by omega) (by omega) (by omega) dnm).mono ?_
  rintro e w' ⟨rfl, fv', hs⟩
  rw [show decL left = left - 1 by unfold decL; rw [if_pos (by omega)]] at hs
  exact ⟨rfl, fv', hs⟩
theorem rw_app {w : World} {B b d : Nat} {fs : List Fl} {left : Int} {fv : Value} (h : St 82 87 w B b (wo dnm fs) left fv) (hp : Ptr 104 w d b) (hB : B ≤ w.heap.size) (h1 : 1 ≤ left) (h2 : left ≤ 3) (hlen : fs.length ≤ 1000) (r : ByteArray) (hr : r.size ≤ 1099511627776) :
    Calls Tryz.prog 84 #[ptrV d, .string dnm, .string r] w fun e w' => e = .returned (.bool true) ∧ ∃ fv', Stp 82 87 B b w w' fv (wo dnm fs ++ [⟨dnm, r, 0⟩]) (left - 1) fv' := by
  have hwl := wo_len dnm fs
  refine (apiAppend_yes h hp hB (by omega) (by omega) (by omega) (by omega) dnm r (-1) (wo_at _ _) (by show (⟨#[]⟩ : ByteArray).size + r.size ≤ _; have : (⟨#[]⟩ : ByteArray).size = 0 := rfl; omega)).mono ?_
  rintro e w' ⟨rfl, fv', hs⟩
  rw [show decL left = left - 1 by unfold decL; rw [if_pos (by omega)]] at hs
  have e1 : aApp (wo dnm fs) dnm r (-1) = wo dnm fs ++ [⟨dnm, r, 0⟩] := by
    unfold aApp
    rw [if_pos (by omega), show (⟨#[]⟩ : ByteArray) ++ r = r from tb_inj (by rw [tb_append]; rfl)]
  rw [e1] at hs
  exact ⟨rfl, fv', hs⟩
theorem rw_syn {w : World} {B b d : Nat} {fs : List Fl} {left : Int} {fv : Value} (r : ByteArray) (h : St 82 87 w B b (wo dnm fs ++ [⟨dnm, r, 0⟩]) left fv) (hp : Ptr 104 w d b) (h1 : 1 ≤ left) (h2 : left ≤ 3) :
    Calls Tryz.prog 85 #[ptrV d, .string dnm] w fun e w' => e = .returned (.bool true) ∧ ∃ fv', Stp 82 87 B b w w' fv (wo dnm fs ++ [⟨dnm, r, r.size⟩]) (left - 1) fv' := by
  refine (apiSync_yes h hp (by omega) (by omega) (by omega) dnm ((wo dnm fs).length : Int) (snoc_at _ rfl)).mono ?_
  rintro e w' ⟨rfl, fv', hs⟩
  rw [show decL left = left - 1 by unfold decL; rw [if_pos (by omega)]] at hs
  have e1 : aSync (wo dnm fs ++ [⟨dnm, r, 0⟩]) ((wo dnm fs).length : Int) = wo dnm fs ++ [⟨dnm, r, r.size⟩] := by
    unfold aSync setS
    rw [if_neg (by omega), Int.toNat_natCast]
    simp [List.getD]
  rw [e1] at hs
  exact ⟨rfl, fv', hs⟩

/-- What is left of the files where the disk stops behind so many steps. -/
def rwN (fs : List Fl) (r : ByteArray) : Nat → List Fl
  | 0 => fs
  | 1 => wo dnm fs
  | 2 => wo dnm fs ++ [⟨dnm, r, 0⟩]
  | _ => wo dnm fs ++ [⟨dnm, r, r.size⟩]

set_option maxRecDepth 100000 in
set_option maxHeartbeats 4000000 in
theorem rewrite_no {w : World} {B b d : Nat} {fs : List Fl} {l : Nat} {fv : Value} (h : St 82 87 w B b fs (l : Int) fv) (hp : Ptr 104 w d b) (hB : B ≤ w.heap.size) (hl : l < 4) (hlen : fs.length ≤ 1000) (r : ByteArray) (hr : r.size ≤ 1099511627776) :
    Calls Tryz.prog 59 #[ptrV d, .string r] w fun e w' => e = .returned (.bool false) ∧ ∃ fv', Stp 82 87 B b w w' fv (rwN fs r l) 0 fv' := by
  have HP : Hid (∀ {w' : World} {fs' : List Fl} {l' : Int} {fv' : Value}, Stp 82 87 B b w w' fv fs' l' fv' → Ptr 104 w' d b ∧ B ≤ w'.heap.size) := fun hs => ⟨hp.keep h hs.tch (by decide) (by decide), Nat.le_trans hB hs.tch.size⟩
  rcases (show l = 0 ∨ l = 1 ∨ l = 2 ∨ l = 3 by omega) with rfl | rfl | rfl | rfl
  · have C1 := hide (apiRemove_no h hp dnm)
    clear h hp HP
    unfold dnm at C1
    go_enter Tryz.func59, Tryz.ntmps59
    go_wp2_with (first | (go_at_call 83; refine C1.out.mono ?_; rintro e w1 ⟨rfl, hs1⟩; have H1 := hide hs1; clear hs1))
    go_ret
    exact ⟨rfl, fv, H1.out⟩
  · have C1 := hide (rw_rem h hp hB (by omega) (by omega) hlen)
    have C2 : Hid (∀ W fv1, Stp 82 87 B b w W fv (wo dnm fs) 0 fv1 → Calls Tryz.prog 84 #[ptrV d, .string dnm, .string r] W fun e w' => e = .returned (.bool false) ∧ Stp 82 87 B b w w' fv (wo dnm fs) 0 fv1) := fun W fv1 hs => (apiAppend_no hs.st (HP.out hs).1 dnm r).mono (by rintro e w' ⟨rfl, hs'⟩; exact ⟨rfl, hs.trans hs'⟩)
    clear h hp HP
    unfold dnm at C1 C2
    go_enter Tryz.func59, Tryz.ntmps59
    go_wp2_with (first
      | (go_at_call 83; refine C1.out.mono ?_; rintro e w1 ⟨rfl, fv1, hs1⟩; have H1 := hide hs1; clear hs1)
      | (go_at_call 84; refine (C2.out _ _ H1.out).mono ?_; rintro e w2 ⟨rfl, hs2⟩; have H2 := hide hs2; clear hs2))
    go_ret
    exact ⟨rfl, fv1, H2.out⟩
  · have C1 := hide (rw_rem h hp hB (by omega) (by omega) hlen)
    have C2 : Hid (∀ W fv1, Stp 82 87 B b w W fv (wo dnm fs) (((2 : Nat) : Int) - 1) fv1 → Calls Tryz.prog 84 #[ptrV d, .string dnm, .string r] W fun e w' => e = .returned (.bool true) ∧ ∃ fv', Stp 82 87 B b w w' fv (wo dnm fs ++ [⟨dnm, r, 0⟩]) 0 fv') := fun W fv1 hs => (rw_app hs.st (HP.out hs).1 (HP.out hs).2 (by omega) (by omega) hlen r hr).mono (by rintro e w' ⟨rfl, fv', hs'⟩; exact ⟨rfl, fv', hs.trans hs'⟩)
    have C3 : Hid (∀ W fv1, Stp 82 87 B b w W fv (wo dnm fs ++ [⟨dnm, r, 0⟩]) 0 fv1 → Calls Tryz.prog 85 #[ptrV d, .string dnm] W fun e w' => e = .returned (.bool false) ∧ Stp 82 87 B b w w' fv (wo dnm fs ++ [⟨dnm, r, 0⟩]) 0 fv1) := fun W fv1 hs => (apiSync_no hs.st (HP.out hs).1 dnm).mono (by rintro e w' ⟨rfl, hs'⟩; exact ⟨rfl, hs.trans hs'⟩)
    clear h hp HP
    unfold dnm at C1 C2 C3
    go_enter Tryz.func59, Tryz.ntmps59
    go_wp2_with (first
      | (go_at_call 83; refine C1.out.mono ?_; rintro e w1 ⟨rfl, fv1, hs1⟩; have H1 := hide hs1; clear hs1)
      | (go_at_call 84; refine (C2.out _ _ H1.out).mono ?_; rintro e w2 ⟨rfl, fv2, hs2⟩; have H2 := hide hs2; clear hs2)
      | (go_at_call 85; refine (C3.out _ _ H2.out).mono ?_; rintro e w3 ⟨rfl, hs3⟩; have H3 := hide hs3; clear hs3))
    go_ret
    exact ⟨rfl, fv2, H3.out⟩
  · have C1 := hide (rw_rem h hp hB (by omega) (by omega) hlen)
    have C2 : Hid (∀ W fv1, Stp 82 87 B b w W fv (wo dnm fs) (((3 : Nat) : Int) - 1) fv1 → Calls Tryz.prog 84 #[ptrV d, .string dnm, .string r] W fun e w' => e = .returned (.bool true) ∧ ∃ fv', Stp 82 87 B b w w' fv (wo dnm fs ++ [⟨dnm, r, 0⟩]) 1 fv') := fun W fv1 hs => (rw_app hs.st (HP.out hs).1 (HP.out hs).2 (by omega) (by omega) hlen r hr).mono (by rintro e w' ⟨rfl, fv', hs'⟩; exact ⟨rfl, fv', hs.trans hs'⟩)
    have C3 : Hid (∀ W fv1, Stp 82 87 B b w W fv (wo dnm fs ++ [⟨dnm, r, 0⟩]) 1 fv1 → Calls Tryz.prog 85 #[ptrV d, .string dnm] W fun e w' => e = .returned (.bool true) ∧ ∃ fv', Stp 82 87 B b w w' fv (wo dnm fs ++ [⟨dnm, r, r.size⟩]) 0 fv') := fun W fv1 hs => (rw_syn r hs.st (HP.out hs).1 (by omega) (by omega)).mono (by rintro e w' ⟨rfl, fv', hs'⟩; exact ⟨rfl, fv', hs.trans hs'⟩)
    have C4 : Hid (∀ W fv1, Stp 82 87 B b w W fv (wo dnm fs ++ [⟨dnm, r, r.size⟩]) 0 fv1 → Calls Tryz.prog 86 #[ptrV d, .string dnm, .string jnm] W fun e w' => e = .returned (.bool false) ∧ Stp 82 87 B b w w' fv (wo dnm fs ++ [⟨dnm, r, r.size⟩]) 0 fv1) := fun W fv1 hs => (apiRename_no hs.st (HP.out hs).1 dnm jnm).mono (by rintro e w' ⟨rfl, hs'⟩; exact ⟨rfl, hs.trans hs'⟩)
    clear h hp HP
    unfold dnm at C1 C2 C3 C4
    unfold jnm at C4
    go_enter Tryz.func59, Tryz.ntmps59
    go_wp2_with (first
      | (go_at_call 83; refine C1.out.mono ?_; rintro e w1 ⟨rfl, fv1, hs1⟩; have H1 := hide hs1; clear hs1)
      | (go_at_call 84; refine (C2.out _ _ H1.out).mono ?_; rintro e w2 ⟨rfl, fv2, hs2⟩; have H2 := hide hs2; clear hs2)
      | (go_at_call 85; refine (C3.out _ _ H2.out).mono ?_; rintro e w3 ⟨rfl, fv3, hs3⟩; have H3 := hide hs3; clear hs3)
      | (go_at_call 86; refine (C4.out _ _ H3.out).mono ?_; rintro e w4 ⟨rfl, hs4⟩; have H4 := hide hs4; clear hs4))
    go_ret
    exact ⟨rfl, fv3, H4.out⟩
end Go.Proofs.YtkncboinfcnklabGreatDoor

namespace Go.Proofs.YtkncboinfcnklabGreatDoor
open Go.RowKit Go.Deep Go.Shelf Go.Proofs.YtkncboinfcnklabGreatDoor.Mth

theorem slice_hi (s : ByteArray) (i : Nat) (hi : i ≤ s.size) (w : World) : (Instr.slice 9 (.string s) none (some (.int .i64 (i : Int))) none).run Tryz.prog w = .ok (.string (strOfNums ((tb s).take i))) w := by
  rw [run_slice_string_h (P := Tryz.prog) (w := w) (t := 9) (s := s) Tryz.underlying9 .i64 (i : Int) (by omega) (by omega)]
  congr 2
  apply bytes_ext
  rw [Int.toNat_natCast, ByteArray.data_extract, Array.toList_extract, List.extract_eq_take_drop, List.drop_zero, Nat.sub_zero]
  have e : strOfNums ((tb s).take i) = ofL (s.data.toList.take i) := by
    unfold strOfNums tb ofL
    rw [← List.map_take, List.map_map]
    congr 2
    conv => rhs; rw [← List.map_id (s.data.toList.take i)]
    apply List.map_congr_left
    intro u _
    simp
  rw [e]
  rfl

/-- What a disk tells of its journal. -/
def jDat (fs : List Fl) (dt : ByteArray) : Prop := ∀ r, At fs jnm r → (if r < 0 then ⟨#[]⟩ else (fs.getD r.toNat fl0).data) = dt
/-- What Open leaves. -/
structure OpnR (w w' : World) (B d b jb : Nat) (fv : Value) (rs : List Rc) (left : Int) (v : Value) : Prop where
  ex : ∃ fv' R, tb R = rcL rs ∧ JAt w' B jb d b (jf R R.size) left fv' (rcP rs).1 (rcP rs).2.length ∧ ∀ g, some g = fv'.ownBlock → some g = fv.ownBlock ∨ w.heap.size ≤ g
  row : w'.ownsRow w.heap.size 49 3 v (rcP rs).2.length ((rcP rs).2.flatMap eC)
  tch : Tch (ownD b fv) w w'
  ge : w.heap.size ≤ jb

set_option maxRecDepth 100000 in
set_option maxHeartbeats 4000000 in
theorem open_ok {w : World} {B b d : Nat} {fs : List Fl} {left : Int} {fv : Value} (h : St 82 87 w B b fs left fv) (hp : Ptr 104 w d b) (hB : B ≤ w.heap.size) (hd : B ≤ d) (hlf : left = -1 ∨ 5 ≤ left) (h2 : left < 9223372036854775808) (hfs : JD fs) (hlen : fs.length ≤ 1000) {dt : ByteArray} (hD : jDat fs dt) {rs : List Rc} {t : List Int} (hr : tb dt = rcL rs ++ t) (ht : Torn t) (hok : ∀ x ∈ rs, x.ok) (hn : rs.length ≤ 1000000) (hrs : dt.size ≤ 1099511627776) (hc : (rcP rs).1 ≤ 1000000000000) :
    Calls Tryz.prog 35 #[ptrV d] w fun e w' => ∃ jb v, e = .returned (.tuple #[ptrV jb, v, .bool true]) ∧ OpnR w w' B d b jb fv rs (decL (decL (decL (decL left)))) v := by
  have hlr : (rcL rs).length ≤ dt.size := by
    have := tb_len dt
    rw [hr, List.length_append] at this
    omega
  obtain ⟨R, hR⟩ : ∃ R, R = strOfNums (rcL rs) := ⟨_, rfl⟩
  have htR : tb R = rcL rs := by
    rw [hR]
    refine tb_of (fun x hx => tb_bts dt x ?_)
    rw [hr]
    exact List.mem_append_left _ hx
  have hRs : R.size ≤ 1099511627776 := by
    have := tb_len R
    rw [htR] at this
    omega
  have SL : ∀ W, (Instr.slice 9 (.string dt) none (some (.int .i64 ((rcL rs).length : Int))) none).run Tryz.prog W = .ok (.string R) W := fun W => by
    have h1 := slice_hi dt (rcL rs).length hlr W
    rw [hr, List.take_left, ← hR] at h1
    exact h1
  have CR : Hid (Calls Tryz.prog 57 #[ptrV d, .string jnm] w fun e w' => e = .returned (.string dt) ∧ w' = w) := by
    refine (read_any h hp jnm).mono ?_
    rintro e w' ⟨r, hr', rfl, hw⟩
    exact ⟨by rw [hD r hr'], hw⟩
  have CJ := hide (readJ_any dt rs t hr ht hok hn hrs hc w)
  have CW : Hid (∀ W, Below w.heap.size w W → Calls Tryz.prog 59 #[ptrV d, .string R] W fun e w' => e = .returned (.bool true) ∧ ∃ fv', Stp 82 87 B b W w' fv (jf R R.size) (decL (decL (decL (decL left)))) fv' ∧ Ptr 104 w' d b) := by
    intro W hb
    refine (rewrite_ok (h.below hb) (hp.below hb) (Nat.le_trans hB hb.size) (by omega) h2 hfs hlen R hRs).mono ?_
    rintro e w' ⟨rfl, fv', hs⟩
    exact ⟨rfl, fv', hs, (hp.below hb).keep (h.below hb) hs.tch (by decide) (by decide)⟩
  have HTR := hide htR
  have HOW : Hid (∀ g, ownD b fv g → g < w.heap.size) := fun g hg => h.ownLt hg
  have hl4 : ((decL (decL (decL (decL left)))) == 0) = false := by
    rw [beq_eq_false_iff_ne]
    unfold decL
    rcases hlf with q | q
    · rw [q]; decide
    · repeat rw [if_pos (by omega)]
      omega
  generalize decL (decL (decL (decL left))) = l4 at *
  clear h hp hD hr ht hok htR hlr hlf h2 hfs hlen hrs hR
  unfold jnm at CR
  go_enter Tryz.func35, Tryz.ntmps35
  go_wp2_with (first
    | (go_at_call 57; refine CR.out.mono ?_; rintro e w' ⟨rfl, hw'⟩; rw [hw']; clear hw' w')
    | (go_at_call 58; refine CJ.out.mono ?_; rintro e w2 ⟨v, rfl, ho2, hb2⟩; have HB2 := hide hb2; have HO2 := hide ho2; obtain ⟨va, vc, rfl, _, _⟩ := own_slice ho2; clear hb2 ho2))
  obtain ⟨c, hcc⟩ : ∃ c : Nat, c = (rcP rs).1 := ⟨_, rfl⟩
  obtain ⟨n, hnn⟩ : ∃ n : Nat, n = (rcP rs).2.length := ⟨_, rfl⟩
  rw [← hnn] at HO2
  rw [← hcc, ← hnn]
  have HCC := hide hcc
  have HNN := hide hnn
  clear hcc hnn CJ
  have hb3 := below_allocG w2 (Obj.cells #[.int .i64 (c : Int), .slice va n vc] 135)
  have hk3 := new_blk w2 #[.int .i64 (c : Int), .slice va n vc] 135
  have hB3 := HB2.out.trans (hb3.mono HB2.out.size)
  have CW3 := hide (CW.out _ hB3)
  have HO3 := hide (Rl.own_belowR HO2.out hb3)
  have hnb3 : w2.heap.size < (w2.alloc (Obj.cells #[.int .i64 (c : Int), .slice va n vc] 135)).heap.size := by simp
  have HB3 := hide hB3
  have HK3 := hide hk3
  clear hb3 hB3 hk3 CW CR HO2
  obtain ⟨pb, hpb⟩ : ∃ pb, pb = w2.heap.size := ⟨_, rfl⟩
  rw [← hpb] at HK3 hnb3 ⊢
  have hwp : w.heap.size ≤ pb := by rw [hpb]; exact HB2.out.size
  generalize w2.alloc (Obj.cells #[.int .i64 (c : Int), .slice va n vc] 135) = w3 at *
  clear hpb HB2
  refine CW3.out.mono ?_
  rintro e w4 ⟨rfl, fv4, hs4, hp4⟩
  have CS := hide (stopped_any hs4.st hp4)
  rw [hl4] at CS
  have hnew : ∀ k, w.heap.size ≤ k → ¬ ownD b fv k := fun k hk q => by have := HOW.out k q; omega
  have hk4 : w4.heap[pb]? = some (Obj.cells #[.int .i64 (c : Int), .slice va n vc] 135 (0, 0)) := (hs4.tch.block pb hnb3 (hnew pb hwp)).trans HK3.out
  have ho4 : w4.ownsRow w.heap.size 49 3 (.slice va n vc) n ((rcP rs).2.flatMap eC) := own_same HO3.out (fun g hg => hs4.tch.block g (own_block HO3.out hg).2.1 (hnew g (own_block HO3.out hg).1))
  have HT4 : Hid (Tch (ownD b fv) w w4) := ⟨hs4.tch.os.trans HB3.out.os, hs4.tch.tape.trans HB3.out.tape, hs4.tch.output.trans HB3.out.output, Nat.le_trans HB3.out.size hs4.tch.size, fun k hk hne => (hs4.tch.block k (Nat.lt_of_lt_of_le hk HB3.out.size) hne).trans (HB3.out.block k hk)⟩
  have FIN : Hid (∀ W, Below w4.heap.size w4 W → OpnR w (W.alloc (Obj.cells #[ptrV d, .int .i64 (c : Int), .int .i64 (n : Int)] 140)) B d b W.heap.size fv rs l4 (.slice va n vc)) := by
    intro W hW
    have hWa := hW.trans ((below_allocG W (Obj.cells #[ptrV d, .int .i64 (c : Int), .int .i64 (n : Int)] 140)).mono hW.size)
    have hsz : w.heap.size ≤ W.heap.size := Nat.le_trans HT4.out.size hW.size
    refine ⟨⟨fv4, R, HTR.out, ⟨by rw [← HCC.out, ← HNN.out]; exact new_blk _ _ _, hp4.below hWa, hs4.st.below hWa, Nat.le_trans hB hsz, hd⟩, fun g hg => ?_⟩, by rw [← HNN.out]; exact Rl.own_belowR ho4 hWa, HT4.out.trans (tch_below (S := ownD b fv) hWa) (fun _ _ q => q), hsz⟩
    rcases hs4.new g hg with q | q
    · exact Or.inl q
    · exact Or.inr (Nat.le_trans HB3.out.size q)
  obtain ⟨k0, _⟩ := cell_of (j := 0) (u := .int .i64 (c : Int)) hk4 rfl
  obtain ⟨k1, _⟩ := cell_of (j := 1) (u := .slice va n vc) hk4 rfl
  clear hk4 hs4 hp4 HK3 HB3 CW3 HT4 ho4 HO3
  go_wp2_with (first | (go_at_call 60; refine CS.out.mono ?_; rintro e w' ⟨rfl, hw'⟩; rw [hw']; clear hw' w'))
  go_region_held3 (fun w' => w'.cell? ⟨pb, 0, none⟩ = some (.int .i64 (c : Int)) ∧ w'.cell? ⟨pb, 1, none⟩ = some (.slice va n vc)) (first | exact ⟨k0, k1⟩ | exact ⟨cellA k0, cellA k1⟩ | fail) (fail)
  go_wp2_with fail
  go_ret3
  exact ⟨_, _, rfl, FIN.out _ (drewB w4)⟩
end Go.Proofs.YtkncboinfcnklabGreatDoor
