import Derived.Test.YtkncboinfcnklabGreatDoorQ20
import Derived.Test.YtkncboinfcnklabGreatDoorQ4
import Derived.Laws.AppendOwnNone
namespace Go.Proofs.YtkncboinfcnklabGreatDoor
open Go.RowKit Go.Deep Go.Shelf Go.Proofs.YtkncboinfcnklabGreatDoor.Mth

/-- A log that has nothing. -/
def Lg.new (m f bk n kp bt : Nat) : Lg := ⟨m, f, bk, kp, bt, 0, 0, [], fun _ => [], List.replicate n wk0, fun _ => none, 0, 0⟩
/-- The blocks of a new log bear these numbers. -/
noncomputable def rho0 (lb jb db sb ms mm tm : Nat) (fv me wr : Value) (wbs : List Nat) (k : Nat) : Nat := by
  classical
  exact if k = lb then 1 else if ownJ jb db sb fv k then 2 else if ownS ms mm me k then 3 else if k = tm then 6 else if some k = wr.ownBlock then 5 else if k ∈ wbs then 20 + wbs.idxOf k else 0
theorem cells_ty {w : World} {k : Nat} {C C' : Array Value} {t t' : TypeId} {fr fr' : Nat × Nat} (h : w.heap[k]? = some (Obj.cells C t fr)) (h' : w.heap[k]? = some (Obj.cells C' t' fr')) : t = t' := by
  rw [h] at h'
  injection h' with h'
  injection h' with _ e _
theorem JAt.ty {w : World} {B jb db sb : Nat} {fs : List Fl} {left : Int} {fv : Value} {clock count : Nat} (h : JAt w B jb db sb fs left fv clock count) {k : Nat} (hk : ownJ jb db sb fv k) : ∃ C t fr, w.heap[k]? = some (Obj.cells C t fr) ∧ (t = 140 ∨ t = 104 ∨ t = 82 ∨ t = 87) := by
  rcases hk with rfl | rfl | hk | hk
  · exact ⟨_, _, _, h.blk, Or.inl rfl⟩
  · exact ⟨_, _, _, h.ptr, Or.inr (Or.inl rfl)⟩
  · subst hk
    exact ⟨_, _, _, h.st.blk, Or.inr (Or.inr (Or.inl rfl))⟩
  · obtain ⟨_, _, D, hD⟩ := own_block h.st.own hk
    exact ⟨_, _, _, hD, Or.inr (Or.inr (Or.inr rfl))⟩
theorem SegAt.ty {w : World} {B s mb : Nat} {es : List Ent} {ev : Value} (h : SegAt w B s es ev mb) {k : Nat} (hk : ownS s mb ev k) : (∃ C t fr, w.heap[k]? = some (Obj.cells C t fr) ∧ (t = 124 ∨ t = 49)) ∨ (k = mb ∧ ∃ es c, w.heap[k]? = some (Obj.map es c)) := by
  rcases hk with rfl | hk | rfl
  · exact Or.inl ⟨_, _, _, h.blk, Or.inl rfl⟩
  · obtain ⟨_, _, D, hD⟩ := own_block h.own hk
    exact Or.inl ⟨_, _, _, hD, Or.inr rfl⟩
  · exact Or.inr ⟨rfl, h.idx.notCells⟩

set_option maxHeartbeats 1000000 in
theorem LogAt.made {w : World} {B lb jb db sb ms mm tm : Nat} {fv me wr : Value} {wbs : List Nat} {m f bk kp bt : Nat}
    (hb : w.heap[lb]? = some (Obj.cells #[.int .i64 (m : Int), .int .i64 (f : Int), .int .i64 (bk : Int), .int .i64 (wbs.length : Int), .int .i64 (kp : Int), .int .i64 (bt : Int), ptrV jb, ptrV ms, .slice none 0 0, .slice none 0 0, .slice none 0 0, .slice none 0 0, .slice none 0 0, .slice none 0 0, wr, .map (some tm), .int .i64 0] 78 (0, 0)))
    (hj : JAt w B jb db sb (jf ⟨#[]⟩ 0) (-1) fv 0 0) (hm : SegAt w B ms [] me mm) (ht : TlsAt w tm 0 (fun _ => none) 0) (hr : w.ownsRow B 93 1 wr wbs.length (wbs.map ptrV))
    (hw : ∀ i, i < wbs.length → w.heap[wbs.getD i 0]? = some (Obj.cells (wkC lb (wbs.getD i 0) wk0 (.slice none 0 0)) 110 (0, 0))) (hge : ∀ i, i < wbs.length → B ≤ wbs.getD i 0) (hlt : wbs.Pairwise (fun a b => a < b)) (hn : 0 < wbs.length ∧ wbs.length ≤ 4) (g1 : B ≤ lb) (g2 : B ≤ tm) (hne : tm ≠ mm) :
    ∃ ρ G, LogAt w ρ B 0 lb G (Lg.new m f bk wbs.length kp bt) ∧ G.left = -1 ∧ G.dt = ⟨#[]⟩ := by
  classical
  have htm : ∃ es c, w.heap[tm]? = some (Obj.map es c) := by
    obtain ⟨D, n, ⟨es, c, hb', _⟩, _⟩ := ht
    exact ⟨es, c, hb'⟩
  obtain ⟨tes, tc, htb⟩ := htm
  have jlb : ¬ ownJ jb db sb fv lb := fun q => by
    obtain ⟨C, t, fr, h1, h2⟩ := hj.ty q
    have := cells_ty hb h1
    subst this
    rcases h2 with h2 | h2 | h2 | h2 <;> exact absurd h2 (by decide)
  have slb : ¬ ownS ms mm me lb := fun q => by
    rcases hm.ty q with ⟨C, t, fr, h1, h2⟩ | ⟨_, es, c, h1⟩
    · have := cells_ty hb h1
      subst this
      rcases h2 with h2 | h2 <;> exact absurd h2 (by decide)
    · rw [hb] at h1; cases h1
  have sj : ∀ k, ownS ms mm me k → ¬ ownJ jb db sb fv k := fun k q1 q2 => by
    obtain ⟨C, t, fr, h1, h2⟩ := hj.ty q2
    rcases hm.ty q1 with ⟨C', t', fr', h3, h4⟩ | ⟨_, es, c, h3⟩
    · have := cells_ty h1 h3
      subst this
      rcases h2 with rfl | rfl | rfl | rfl <;> rcases h4 with h4 | h4 <;> exact absurd h4 (by decide)
    · rw [h1] at h3; cases h3
  have tlb : tm ≠ lb := fun e => by rw [e, hb] at htb; cases htb
  have tj : ¬ ownJ jb db sb fv tm := fun q => by
    obtain ⟨C, t, fr, h1, _⟩ := hj.ty q
    rw [htb] at h1; cases h1
  have ts : ¬ ownS ms mm me tm := fun q => by
    rcases hm.ty q with ⟨C, t, fr, h1, _⟩ | ⟨e, _⟩
    · rw [htb] at h1; cases h1
    · exact hne e
  have rty : ∀ g, some g = wr.ownBlock → ∃ D, w.heap[g]? = some (Obj.cells D 93 (0, 0)) := fun g q => by
    obtain ⟨_, _, D, hD⟩ := own_block hr q
    exact ⟨D, hD⟩
  have wty : ∀ g, g ∈ wbs → ∃ D, w.heap[g]? = some (Obj.cells D 110 (0, 0)) := fun g q => by
    obtain ⟨i, hi, rfl⟩ := List.getElem_of_mem q
    have := hw i hi
    rw [← List.getElem_eq_getD (h := hi)] at this
    exact ⟨_, this⟩
  have far : ∀ g D (t : TypeId), w.heap[g]? = some (Obj.cells D t (0, 0)) → (t = 93 ∨ t = 110) → g ≠ lb ∧ ¬ ownJ jb db sb fv g ∧ ¬ ownS ms mm me g ∧ g ≠ tm := by
    intro g D t hg htt
    refine ⟨fun e => ?_, fun q => ?_, fun q => ?_, fun e => by rw [e, htb] at hg; cases hg⟩
    · rw [e] at hg
      have := cells_ty hb hg
      subst this
      rcases htt with h2 | h2 <;> exact absurd h2 (by decide)
    · obtain ⟨C, t', fr, h1, h2⟩ := hj.ty q
      have := cells_ty hg h1
      subst this
      rcases htt with rfl | rfl <;> rcases h2 with h2 | h2 | h2 | h2 <;> exact absurd h2 (by decide)
    · rcases hm.ty q with ⟨C, t', fr, h1, h2⟩ | ⟨_, es, c, h1⟩
      · have := cells_ty hg h1
        subst this
        rcases htt with rfl | rfl <;> rcases h2 with h2 | h2 <;> exact absurd h2 (by decide)
      · rw [hg] at h1; cases h1
  have ρdef : ∀ k, rho0 lb jb db sb ms mm tm fv me wr wbs k = if k = lb then 1 else if ownJ jb db sb fv k then 2 else if ownS ms mm me k then 3 else if k = tm then 6 else if some k = wr.ownBlock then 5 else if k ∈ wbs then 20 + wbs.idxOf k else 0 := fun k => by
    unfold rho0
    congr
  obtain ⟨ρ, hρ⟩ : ∃ ρ, ρ = rho0 lb jb db sb ms mm tm fv me wr wbs := ⟨_, rfl⟩
  rw [← hρ] at ρdef
  have r1 : ρ lb = 1 := by rw [ρdef, if_pos rfl]
  have r2 : ∀ k, ownJ jb db sb fv k → ρ k = 2 := fun k q => by
    have h1 : ¬ k = lb := fun e => by rw [e] at q; exact jlb q
    rw [ρdef, if_neg h1, if_pos q]
  have r3 : ∀ k, ownS ms mm me k → ρ k = 3 := fun k q => by
    have h1 : ¬ k = lb := fun e => by rw [e] at q; exact slb q
    rw [ρdef, if_neg h1, if_neg (sj k q), if_pos q]
  have r6 : ρ tm = 6 := by rw [ρdef, if_neg tlb, if_neg tj, if_neg ts, if_pos rfl]
  have r5 : ∀ g, some g = wr.ownBlock → ρ g = 5 := fun g q => by
    obtain ⟨D, hD⟩ := rty g q
    obtain ⟨a1, a2, a3, a4⟩ := far g D _ hD (Or.inl rfl)
    rw [ρdef, if_neg a1, if_neg a2, if_neg a3, if_neg a4, if_pos q]
  have rw' : ∀ i, i < wbs.length → ρ (wbs.getD i 0) = 20 + i := fun i hi => by
    have hmem : wbs.getD i 0 ∈ wbs := by rw [← List.getElem_eq_getD (h := hi)]; exact List.getElem_mem hi
    obtain ⟨D, hD⟩ := wty _ hmem
    obtain ⟨a1, a2, a3, a4⟩ := far _ D _ hD (Or.inr rfl)
    rw [ρdef, if_neg a1, if_neg a2, if_neg a3, if_neg a4, if_neg, if_pos hmem]
    · congr 1
      rw [← List.getElem_eq_getD (h := hi)]
      have hnd : wbs.Nodup := hlt.imp (fun h e => by omega)
      exact hnd.idxOf_getElem i hi
    · intro q
      obtain ⟨D', hD'⟩ := rty _ q
      exact absurd (cells_ty hD hD') (by decide)
  have rlt : ∀ k, ρ k ≠ 0 → k < w.heap.size ∧ B ≤ k := by
    intro k hk
    rw [ρdef] at hk
    by_cases e1 : k = lb
    · subst e1; exact ⟨(Array.getElem?_eq_some_iff.1 hb).1, g1⟩
    · rw [if_neg e1] at hk
      by_cases e2 : ownJ jb db sb fv k
      · have := hj.ownLt e2; exact ⟨this.1, this.2.1⟩
      · rw [if_neg e2] at hk
        by_cases e3 : ownS ms mm me k
        · have := hm.ownLt e3; exact ⟨this.1, this.2.1⟩
        · rw [if_neg e3] at hk
          by_cases e4 : k = tm
          · subst e4; exact ⟨(Array.getElem?_eq_some_iff.1 htb).1, g2⟩
          · rw [if_neg e4] at hk
            by_cases e5 : some k = wr.ownBlock
            · have := own_block hr e5; exact ⟨this.2.1, this.1⟩
            · rw [if_neg e5] at hk
              by_cases e6 : k ∈ wbs
              · obtain ⟨i, hi, e⟩ := List.getElem_of_mem e6
                have h1 := hw i hi
                have h2 := hge i hi
                rw [← List.getElem_eq_getD (h := hi), e] at h1 h2
                exact ⟨(Array.getElem?_eq_some_iff.1 h1).1, h2⟩
              · rw [if_neg e6] at hk
                exact absurd rfl hk
  have hwk : ∀ i, i < wbs.length → (List.replicate wbs.length wk0).getD i wk0 = wk0 := fun i hi => by simp [List.getD, hi]
  refine ⟨ρ, ⟨jb, db, sb, fv, ⟨#[]⟩, 0, -1, ms, mm, me, fun _ => .slice none 0 0, fun _ => [], fun _ => .slice none 0 0, fun _ => 0, wr, wbs, fun _ => .slice none 0 0, tm⟩, ⟨⟨⟨?_, r1⟩, ⟨hj, r2⟩, ⟨fun i _ => World.ownsRow_nil _ _ _ _, fun i _ => rfl, (fun i _ j hj' => absurd hj' (by simp)), (fun i _ g q => by cases q), (fun i _ j hj' => absurd hj' (by simp))⟩, ⟨hr, by simp [Lg.new], ?_, ?_, ?_, by simpa [Lg.new] using hn, ?_, r5, ?_, (fun i _ g q => by cases q)⟩, ⟨ht, r6, g2⟩, rlt⟩, ⟨hm, r3⟩⟩, rfl, rfl⟩
  · simpa [lgC, Lg.new] using hb
  · intro i hi
    simp only [Lg.new, List.length_replicate] at hi ⊢
    rw [hwk i hi]
    exact hw i hi
  · intro i hi
    simp only [Lg.new, List.length_replicate] at hi ⊢
    rw [hwk i hi]
    exact World.ownsRow_nil _ _ _ _
  · intro i hi
    simp only [Lg.new, List.length_replicate] at hi ⊢
    rw [hwk i hi]
    exact ⟨⟨(fun y hy => by cases hy), (fun y hy => by cases hy)⟩, List.nodup_nil⟩
  · intro i hi
    simp only [Lg.new, List.length_replicate] at hi
    exact hge i hi
  · intro i hi
    simp only [Lg.new, List.length_replicate] at hi
    exact rw' i hi
end Go.Proofs.YtkncboinfcnklabGreatDoor

namespace Go.Proofs.YtkncboinfcnklabGreatDoor
open Go.RowKit Go.Deep Go.Shelf Go.Proofs.YtkncboinfcnklabGreatDoor.Mth

theorem Tryz.info93 : (Tryz.prog.info? 93).map (fun i => (i.zero, i.size, i.bytes)) = some (some (.pointer none), 1, 8) := by kernel_rfl
/-- What New leaves. -/
structure NewL (w w' : World) (B b lb : Nat) (L : Lg) : Prop where
  ex : ∃ ρ G, LogAt w' ρ B 0 lb G L ∧ G.left = -1 ∧ G.dt = ⟨#[]⟩
  tch : Tch (fun k => k = b) w w'
/-- The log's own block, made. -/
structure NHd (w3 wx : World) (B lb ms mm tm : Nat) (me : Value) (C : Array Value) : Prop where
  bel : Below w3.heap.size w3 wx
  blk : wx.heap[lb]? = some (Obj.cells C 78 (0, 0))
  seg : SegAt wx B ms [] me mm
  map : wx.heap[tm]? = some (Obj.map #[] 0)
  ne : tm ≠ mm
  ge : w3.heap.size ≤ lb ∧ w3.heap.size ≤ tm
/-- Some workers are made. -/
structure NWk (wx wr : World) (lb k : Nat) (C : Array Value) (wbs : List Nat) (v : Value) : Prop where
  len : wbs.length = k
  blk : wr.heap[lb]? = some (Obj.cells (C.setIfInBounds 14 v) 78 (0, 0))
  row : wr.ownsRow wx.heap.size 93 1 v k (wbs.map ptrV)
  one : ∀ i, i < k → wr.heap[wbs.getD i 0]? = some (Obj.cells (wkC lb (wbs.getD i 0) wk0 (.slice none 0 0)) 110 (0, 0))
  ge : ∀ g ∈ wbs, wx.heap.size ≤ g
  lt : wbs.Pairwise (fun a b => a < b)
  tch : Tch (fun g => g = lb) wx wr
/-- One worker more. -/
theorem NWk.more {wx wr w5 W5 : World} {lb k : Nat} {C : Array Value} {wbs : List Nat} {v v5 : Value} (h : NWk wx wr lb k C wbs v) (hlb : lb < wx.heap.size) (h5 : w5.heap[wr.heap.size]? = some (Obj.cells (wkC lb wr.heap.size wk0 (.slice none 0 0)) 110 (0, 0))) (hb : Below wr.heap.size wr w5) {o : Obj} {M : Nat} (ho : W5.ownsRow wx.heap.size 93 1 v5 M ((wbs.map ptrV) ++ [ptrV wr.heap.size])) (hM : M = k + 1) (hg : (w5.alloc o).grownBy W5 v.ownBlock) :
    NWk wx (W5.setCell ⟨lb, 14, none⟩ v5) lb (k + 1) C (wbs ++ [wr.heap.size]) v5 := by
  subst hM
  have hsz5 : wr.heap.size < w5.heap.size := (Array.getElem?_eq_some_iff.1 h5).1
  have hszW : w5.heap.size ≤ W5.heap.size := by have := hg.size; simp at this; omega
  have hrowne : ∀ g, g < wr.heap.size → some g ≠ v.ownBlock → W5.heap[g]? = wr.heap[g]? := fun g hgl hne => by
    rw [hg.block g (by simp; omega) hne, Mth.hAO w5 o (r := g) (by omega)]
    exact hb.block g hgl
  have hlbr : lb < wr.heap.size := Nat.lt_of_lt_of_le hlb h.tch.size
  have hlbv : some lb ≠ v.ownBlock := fun q => by
    have := (own_block h.row q).1
    omega
  have hnw : some wr.heap.size ≠ v.ownBlock := fun q => by
    have := (own_block h.row q).2.1
    omega
  have hblkW : W5.heap[lb]? = some (Obj.cells (C.setIfInBounds 14 v) 78 (0, 0)) := (hrowne lb hlbr hlbv).trans h.blk
  refine ⟨by rw [List.length_append, h.len]; rfl, ?_, ?_, fun i hi => ?_, fun g hg' => ?_, ?_, ?_⟩
  · have := setCell_blk (j := 14) (v := v5) hblkW
    rwa [show (C.setIfInBounds 14 v).setIfInBounds 14 v5 = C.setIfInBounds 14 v5 from by simp] at this
  · refine own_set_other ?_ hblkW (by decide)
    rw [List.map_append]
    exact ho
  · have hne : ∀ g, (∃ D, W5.heap[g]? = some (Obj.cells D 110 (0, 0))) → g ≠ lb := fun g ⟨D, hD⟩ e => by
      rw [e] at hD
      exact absurd (cells_ty hblkW hD) (by decide)
    by_cases hik : i < k
    · have e1 : (wbs ++ [wr.heap.size]).getD i 0 = wbs.getD i 0 := by rw [List.getD, List.getElem?_append_left (by rw [h.len]; exact hik)]; rfl
      rw [e1]
      have h1 := h.one i hik
      have hlt1 := (Array.getElem?_eq_some_iff.1 h1).1
      have h2 : W5.heap[wbs.getD i 0]? = _ := (hrowne _ hlt1 (fun q => by
        obtain ⟨_, _, D, hD⟩ := own_block h.row q
        exact absurd (cells_ty h1 hD) (by decide))).trans h1
      rw [set_other (hne _ ⟨_, h2⟩)]
      exact h2
    · have e1 : (wbs ++ [wr.heap.size]).getD i 0 = wr.heap.size := by
        rw [show i = wbs.length from by rw [h.len]; omega]
        simp [List.getD]
      rw [e1]
      have h2 : W5.heap[wr.heap.size]? = some (Obj.cells (wkC lb wr.heap.size wk0 (.slice none 0 0)) 110 (0, 0)) := by
        rw [hg.block _ (by simp; omega) hnw, Mth.hAO w5 o (r := wr.heap.size) hsz5]
        exact h5
      rw [set_other (hne _ ⟨_, h2⟩)]
      exact h2
  · rcases List.mem_append.1 hg' with q | q
    · exact h.ge g q
    · rw [List.mem_singleton.1 q]; exact h.tch.size
  · rw [List.pairwise_append]
    refine ⟨h.lt, List.pairwise_singleton _ _, fun a ha c hc => ?_⟩
    rw [List.mem_singleton.1 hc]
    obtain ⟨i, hi, e⟩ := List.getElem_of_mem ha
    have h1 := h.one i (by rw [← h.len]; exact hi)
    rw [← List.getElem_eq_getD (h := hi), e] at h1
    exact (Array.getElem?_eq_some_iff.1 h1).1
  · refine ⟨hg.os.trans (hb.os.trans h.tch.os), hg.tape.trans (hb.tape.trans h.tch.tape), hg.output.trans (hb.output.trans h.tch.output), ?_, fun g hgl hne => ?_⟩
    · have := h.tch.size
      simp
      omega
    · rw [set_other hne, hrowne g (Nat.lt_of_lt_of_le hgl h.tch.size) (fun q => by have := (own_block h.row q).1; omega)]
      exact h.tch.block g hgl hne

set_option maxRecDepth 100000 in
set_option maxHeartbeats 4000000 in
theorem new_log {w : World} {B b d : Nat} (m f bk n kp bt : Nat) (hc : cfgB m f bk n kp bt = true) (h : St 82 87 w B b [] (-1) (.slice none 0 0)) (hp : Ptr 104 w d b) (hB : B ≤ w.heap.size) (hd : B ≤ d) (ht : TabB B w) :
    Calls Tryz.prog 16 #[.agg #[.int .i64 (m : Int), .int .i64 (f : Int), .int .i64 (bk : Int), .int .i64 (n : Int), .int .i64 (kp : Int), .int .i64 (bt : Int)], ptrV d] w fun e w' => ∃ lb, e = .returned (.tuple #[ptrV lb, .int .i64 0]) ∧ NewL w w' B b lb (Lg.new m f bk n kp bt) := by
  have hn : 1 ≤ n ∧ n ≤ 4 := by
    unfold cfgB at hc
    simp only [Bool.and_eq_true, decide_eq_true_eq] at hc
    omega
  have hb1 := below_allocG w (Obj.cells #[.int .i64 (m : Int), .int .i64 (f : Int), .int .i64 (bk : Int), .int .i64 (n : Int), .int .i64 (kp : Int), .int .i64 (bt : Int)] 32)
  have hk1 := new_blk w #[.int .i64 (m : Int), .int .i64 (f : Int), .int .i64 (bk : Int), .int .i64 (n : Int), .int .i64 (kp : Int), .int .i64 (bt : Int)] 32
  obtain ⟨w1, hw1⟩ : ∃ w1, w1 = w.alloc (Obj.cells #[.int .i64 (m : Int), .int .i64 (f : Int), .int .i64 (bk : Int), .int .i64 (n : Int), .int .i64 (kp : Int), .int .i64 (bt : Int)] 32) := ⟨_, rfl⟩
  rw [← hw1] at hb1 hk1
  obtain ⟨nb, hnb⟩ : ∃ nb, nb = w.heap.size := ⟨_, rfl⟩
  rw [← hnb] at hk1
  have hnlt : nb < w1.heap.size := (Array.getElem?_eq_some_iff.1 hk1).1
  have hbnb : b < nb := by rw [hnb]; exact h.lt
  have CC := hide (isConfig_any m f bk n kp bt w1)
  rw [hc] at CC
  have CD : Hid (∀ W, Below w1.heap.size w1 W → Calls Tryz.prog 34 #[ptrV d] W fun e w' => e = .returned (.bool true) ∧ w' = W) := fun W hb => isDisk_any (hp.below (hb1.trans (hb.mono hb1.size)))
  have CO : Hid (∀ W, Below w1.heap.size w1 W → Calls Tryz.prog 35 #[ptrV d] W fun e w' => ∃ jb, e = .returned (.tuple #[ptrV jb, .slice none 0 0, .bool true]) ∧ Opn W w' B d b jb) := fun W hb =>
    open_new (h.below (hb1.trans (hb.mono hb1.size))) (hp.below (hb1.trans (hb.mono hb1.size))) (Nat.le_trans hB (hb1.trans (hb.mono hb1.size)).size) hd
  have hbB : B ≤ b := h.ge
  obtain ⟨a0, _⟩ := cell_of (j := 0) (u := .int .i64 (m : Int)) hk1 rfl
  obtain ⟨a1, _⟩ := cell_of (j := 1) (u := .int .i64 (f : Int)) hk1 rfl
  obtain ⟨a2, _⟩ := cell_of (j := 2) (u := .int .i64 (bk : Int)) hk1 rfl
  obtain ⟨a3, _⟩ := cell_of (j := 3) (u := .int .i64 (n : Int)) hk1 rfl
  obtain ⟨a4, _⟩ := cell_of (j := 4) (u := .int .i64 (kp : Int)) hk1 rfl
  obtain ⟨a5, _⟩ := cell_of (j := 5) (u := .int .i64 (bt : Int)) hk1 rfl
  have HW1 := hide hw1
  have HB1 := hide hb1
  have HK1 := hide hk1
  have HT := hide ht
  have HNB := hide hnb
  clear h hp hb1 hk1 hw1 hc ht
  go_enter Tryz.func16, Tryz.ntmps16
  go_upto_region 1 with fail
  rw [← HW1.out, ← HNB.out]
  clear hnb
  go_wp2_with (first
    | (go_at_call 33; refine CC.out.mono ?_; rintro e w2 ⟨rfl, hb2⟩; have HB2 := hide hb2; clear hb2)
    | (go_at_call 34; refine (CD.out _ HB2.out).mono ?_; rintro e w' ⟨rfl, rfl⟩)
    | (go_at_call 35; refine (CO.out _ HB2.out).mono ?_; rintro e w3 ⟨jb, rfl, ho3⟩; have HO3 := hide ho3; clear ho3))
  have hk3 : w3.heap[nb]? = some (Obj.cells #[.int .i64 (m : Int), .int .i64 (f : Int), .int .i64 (bk : Int), .int .i64 (n : Int), .int .i64 (kp : Int), .int .i64 (bt : Int)] 32 (0, 0)) := (HO3.out.tch.block nb (Nat.lt_of_lt_of_le hnlt HB2.out.size) (by omega)).trans ((HB2.out.block nb hnlt).trans HK1.out)
  have hT3 : Tch (fun k => k = b) w w3 := (tch_below (S := fun k => k = b) HB1.out).trans ((tch_below (S := fun k => k = b) HB2.out).trans HO3.out.tch (fun _ _ q => q)) (fun _ _ q => q)
  have hBw3 : Below B w w3 := below_tch (Below.refl B w) hT3 (fun k e => by rw [e]; exact hbB) hB
  have hB3 : B ≤ w3.heap.size := Nat.le_trans hB hT3.size
  have hnlt3 : nb < w3.heap.size := (Array.getElem?_eq_some_iff.1 hk3).1
  have HK : Hid (∀ W, Below w3.heap.size w3 W → W.cell? ⟨nb, 0, none⟩ = some (.int .i64 (m : Int)) ∧ W.cell? ⟨nb, 1, none⟩ = some (.int .i64 (f : Int)) ∧ W.cell? ⟨nb, 2, none⟩ = some (.int .i64 (bk : Int)) ∧ W.cell? ⟨nb, 3, none⟩ = some (.int .i64 (n : Int)) ∧ W.cell? ⟨nb, 4, none⟩ = some (.int .i64 (kp : Int)) ∧ W.cell? ⟨nb, 5, none⟩ = some (.int .i64 (bt : Int))) := by
    intro W hb
    have hk := (hb.block nb hnlt3).trans hk3
    exact ⟨(cell_of (j := 0) hk rfl).1, (cell_of (j := 1) hk rfl).1, (cell_of (j := 2) hk rfl).1, (cell_of (j := 3) hk rfl).1, (cell_of (j := 4) hk rfl).1, (cell_of (j := 5) hk rfl).1⟩
  have CN : Hid (∀ W, Below w3.heap.size w3 W → Calls Tryz.prog 36 #[.slice none 0 0] W fun r w' => ∃ s mb ev, r = .returned (.pointer (some ⟨s, 0, none⟩)) ∧ NewSeg W w' B s [] ev mb) := fun W hb => newSeg_any W B (Nat.le_trans hB3 hb.size) ((HT.out.next (hBw3.trans (hb.mono hB3))).now) (rdE_nil W) (fun e he => by cases he) (by simp)
  have FA : Hid (∀ (w4 : World) (s mb : Nat) (ev : Value), NewSeg w3.drew w4 B s [] ev mb → NHd w3 ((w4.alloc (Obj.map #[] 0)).alloc (Obj.cells #[.int .i64 (m : Int), .int .i64 (f : Int), .int .i64 (bk : Int), .int .i64 (n : Int), .int .i64 (kp : Int), .int .i64 (bt : Int), ptrV jb, ptrV s, .slice none 0 0, .slice none 0 0, .slice none 0 0, .slice none 0 0, .slice none 0 0, .slice none 0 0, .slice none 0 0, .map (some w4.heap.size), .int .i64 0] 78)) B (w4.heap.size + 1) s mb w4.heap.size ev #[.int .i64 (m : Int), .int .i64 (f : Int), .int .i64 (bk : Int), .int .i64 (n : Int), .int .i64 (kp : Int), .int .i64 (bt : Int), ptrV jb, ptrV s, .slice none 0 0, .slice none 0 0, .slice none 0 0, .slice none 0 0, .slice none 0 0, .slice none 0 0, .slice none 0 0, .map (some w4.heap.size), .int .i64 0]) := by
    intro w4 s mb ev hs
    have hb4 : Below w3.heap.size w3 w4 := below_drew1 hs.bel
    have hbm := below_allocG w4 (Obj.map #[] 0)
    have hbc := below_allocG (w4.alloc (Obj.map #[] 0)) (Obj.cells #[.int .i64 (m : Int), .int .i64 (f : Int), .int .i64 (bk : Int), .int .i64 (n : Int), .int .i64 (kp : Int), .int .i64 (bt : Int), ptrV jb, ptrV s, .slice none 0 0, .slice none 0 0, .slice none 0 0, .slice none 0 0, .slice none 0 0, .slice none 0 0, .slice none 0 0, .map (some w4.heap.size), .int .i64 0] 78)
    have hbb := hbm.trans (hbc.mono hbm.size)
    have hsz := hb4.size
    refine ⟨hb4.trans (hbb.mono hb4.size), ?_, hs.seg.below hbb, ?_, ?_, ⟨by omega, hsz⟩⟩
    · have := new_blk (w4.alloc (Obj.map #[] 0)) #[.int .i64 (m : Int), .int .i64 (f : Int), .int .i64 (bk : Int), .int .i64 (n : Int), .int .i64 (kp : Int), .int .i64 (bt : Int), ptrV jb, ptrV s, .slice none 0 0, .slice none 0 0, .slice none 0 0, .slice none 0 0, .slice none 0 0, .slice none 0 0, .slice none 0 0, .map (some w4.heap.size), .int .i64 0] 78
      rwa [World.size_alloc] at this
    · refine (hbc.block w4.heap.size (by simp)).trans ?_
      show (w4.heap.push _)[w4.heap.size]? = _
      rw [Array.getElem?_push, if_pos rfl]
    · have := hs.seg.idx.lt
      omega
  have hbm3 : Below w3.heap.size w3 (w3.alloc (Obj.map #[] 0)).drew := ⟨(below_allocG w3 (Obj.map #[] 0)).os, (below_allocG w3 (Obj.map #[] 0)).tape, (below_allocG w3 (Obj.map #[] 0)).output, (below_allocG w3 (Obj.map #[] 0)).size, (below_allocG w3 (Obj.map #[] 0)).block⟩
  have FB : Hid (∀ (w4 : World) (s mb : Nat) (ev : Value), NewSeg (w3.alloc (Obj.map #[] 0)).drew w4 B s [] ev mb → NHd w3 (w4.alloc (Obj.cells #[.int .i64 (m : Int), .int .i64 (f : Int), .int .i64 (bk : Int), .int .i64 (n : Int), .int .i64 (kp : Int), .int .i64 (bt : Int), ptrV jb, ptrV s, .slice none 0 0, .slice none 0 0, .slice none 0 0, .slice none 0 0, .slice none 0 0, .slice none 0 0, .slice none 0 0, .map (some w3.heap.size), .int .i64 0] 78)) B w4.heap.size s mb w3.heap.size ev #[.int .i64 (m : Int), .int .i64 (f : Int), .int .i64 (bk : Int), .int .i64 (n : Int), .int .i64 (kp : Int), .int .i64 (bt : Int), ptrV jb, ptrV s, .slice none 0 0, .slice none 0 0, .slice none 0 0, .slice none 0 0, .slice none 0 0, .slice none 0 0, .slice none 0 0, .map (some w3.heap.size), .int .i64 0]) := by
    intro w4 s mb ev hs
    have hb4 : Below w3.heap.size w3 w4 := hbm3.trans (hs.bel.mono hbm3.size)
    have hbc := below_allocG w4 (Obj.cells #[.int .i64 (m : Int), .int .i64 (f : Int), .int .i64 (bk : Int), .int .i64 (n : Int), .int .i64 (kp : Int), .int .i64 (bt : Int), ptrV jb, ptrV s, .slice none 0 0, .slice none 0 0, .slice none 0 0, .slice none 0 0, .slice none 0 0, .slice none 0 0, .slice none 0 0, .map (some w3.heap.size), .int .i64 0] 78)
    refine ⟨hb4.trans (hbc.mono hb4.size), new_blk _ _ _, hs.seg.below hbc, ?_, ?_, ⟨hb4.size, Nat.le_refl _⟩⟩
    · refine (hbc.block w3.heap.size (by have : (w3.alloc (Obj.map #[] 0)).heap.size ≤ w4.heap.size := hs.bel.size; simp at this; omega)).trans ((hs.bel.block w3.heap.size (by show _ < (w3.alloc (Obj.map #[] 0)).heap.size; simp)).trans ?_)
      show (w3.heap.push _)[w3.heap.size]? = _
      rw [Array.getElem?_push, if_pos rfl]
    · have : (w3.alloc (Obj.map #[] 0)).heap.size ≤ mb := hs.new mb (Or.inr (Or.inr rfl))
      simp at this
      omega
  have HT3 := hide hT3
  have HBW3 := hide hBw3
  have hmm := @run_makeMap Tryz.prog
  obtain ⟨z0, z1, z2, z3, z4, z5⟩ := HK.out w3.drew (drewB w3)
  obtain ⟨y0, y1, y2, y3, y4, y5⟩ := HK.out _ hbm3
  have HBM3 := hide hbm3
  clear hbm3
  clear a0 a1 a2 a3 a4 a5 hk3 hT3 hBw3 HK1 HW1 CC CD CO
  go_cut [9] from 10 (fun p wx => ∃ lb ms mm tm me, p = ptrV lb ∧ NHd w3 wx B lb ms mm tm me #[.int .i64 (m : Int), .int .i64 (f : Int), .int .i64 (bk : Int), .int .i64 (n : Int), .int .i64 (kp : Int), .int .i64 (bt : Int), ptrV jb, ptrV ms, .slice none 0 0, .slice none 0 0, .slice none 0 0, .slice none 0 0, .slice none 0 0, .slice none 0 0, .slice none 0 0, .map (some tm), .int .i64 0])
  case first =>
    go_region_held3 (fun w' => w'.cell? ⟨nb, 0, none⟩ = some (.int .i64 (m : Int)) ∧ w'.cell? ⟨nb, 1, none⟩ = some (.int .i64 (f : Int)) ∧ w'.cell? ⟨nb, 2, none⟩ = some (.int .i64 (bk : Int)) ∧ w'.cell? ⟨nb, 3, none⟩ = some (.int .i64 (n : Int)) ∧ w'.cell? ⟨nb, 4, none⟩ = some (.int .i64 (kp : Int)) ∧ w'.cell? ⟨nb, 5, none⟩ = some (.int .i64 (bt : Int))) (first | with_reducible exact ⟨z0, z1, z2, z3, z4, z5⟩ | with_reducible exact ⟨y0, y1, y2, y3, y4, y5⟩ | with_reducible exact ⟨m0, m1, m2, m3, m4, m5⟩ | with_reducible exact ⟨cellA m0, cellA m1, cellA m2, cellA m3, cellA m4, cellA m5⟩ | with_reducible exact ⟨cellA (cellA m0), cellA (cellA m1), cellA (cellA m2), cellA (cellA m3), cellA (cellA m4), cellA (cellA m5)⟩ | fail)
      (first
        | (go_at_call 36; refine (CN.out _ (drewB w3)).mono ?_; rintro e w4 ⟨s4, mb4, ev4, rfl, hs4⟩; have HF := hide (FA.out _ _ _ _ hs4); obtain ⟨m0, m1, m2, m3, m4, m5⟩ := HK.out w4 (below_drew1 hs4.bel); clear hs4)
        | (go_at_call 36; refine (CN.out _ HBM3.out).mono ?_; rintro e w4 ⟨s4, mb4, ev4, rfl, hs4⟩; have HF := hide (FB.out _ _ _ _ hs4); obtain ⟨m0, m1, m2, m3, m4, m5⟩ := HK.out w4 (HBM3.out.trans (hs4.bel.mono HBM3.out.size)); clear hs4))
    all_goals (go_wp2_with fail; go_meet; exact ⟨_, _, _, _, _, rfl, HF.out⟩)
  case rest =>
    obtain ⟨lb, ms, mm, tm, me, rfl, hh⟩ := hcut
    have HH := hide hh
    have hk3' := (HK.out wc hh.bel).2.2.2.1
    have hlbc : lb < wc.heap.size := (Array.getElem?_eq_some_iff.1 hh.blk).1
    obtain ⟨i0, hi0, hz0, hz1, hz2⟩ := info_parts Tryz.info93
    have NW0 : Hid (NWk wc wc lb 0 #[.int .i64 (m : Int), .int .i64 (f : Int), .int .i64 (bk : Int), .int .i64 (n : Int), .int .i64 (kp : Int), .int .i64 (bt : Int), ptrV jb, ptrV ms, .slice none 0 0, .slice none 0 0, .slice none 0 0, .slice none 0 0, .slice none 0 0, .slice none 0 0, .slice none 0 0, .map (some tm), .int .i64 0] [] (.slice none 0 0)) := ⟨rfl, hh.blk, World.ownsRow_nil _ _ _ _, (fun i hi => absurd hi (Nat.not_lt_zero _)), (fun g hg => by cases hg), List.Pairwise.nil, Tch.refl _ _⟩
    have FIN : Hid (∀ wr wbs v, NWk wc wr lb n #[.int .i64 (m : Int), .int .i64 (f : Int), .int .i64 (bk : Int), .int .i64 (n : Int), .int .i64 (kp : Int), .int .i64 (bt : Int), ptrV jb, ptrV ms, .slice none 0 0, .slice none 0 0, .slice none 0 0, .slice none 0 0, .slice none 0 0, .slice none 0 0, .slice none 0 0, .map (some tm), .int .i64 0] wbs v → NewL w wr B b lb (Lg.new m f bk n kp bt)) := by
      intro wr wbs v hw
      have hOp := HO3.out
      obtain ⟨⟨fv, hj, hfv⟩, _, hjb⟩ := hOp
      have hlb3 := hh.ge.1
      have hnn : ∀ g, isN wc g → g ≠ lb := fun g ⟨C', fr, e⟩ q => by
        rw [q] at e
        exact absurd (cells_ty hh.blk e) (by decide)
      have hj' : JAt wr B jb d b (jf ⟨#[]⟩ 0) (-1) fv 0 0 := (hj.below hh.bel).same (fun g hg => hw.tch.block g ((hj.below hh.bel).ownLt hg).1 (fun e => by
        have := (hj.ownLt hg).1
        omega))
      have hs' : SegAt wr B ms [] me mm := hh.seg.same (fun g hg => hw.tch.block g (by
        rcases hg with hg | hg
        · exact (hh.seg.ownLt hg).1
        · exact isN_lt hg) (fun e => by
        rcases hg with hg | hg
        · rw [e] at hg
          rcases hh.seg.ty hg with ⟨C', t, fr, h1, h2⟩ | ⟨_, es, c, h1⟩
          · have := cells_ty hh.blk h1
            subst this
            rcases h2 with h2 | h2 <;> exact absurd h2 (by decide)
          · rw [hh.blk] at h1; cases h1
        · exact hnn g hg e))
      have htm : tm ≠ lb := fun e => by have := hh.map; rw [e, hh.blk] at this; cases this
      have hmp : wr.heap[tm]? = some (Obj.map #[] 0) := (hw.tch.block tm (Array.getElem?_eq_some_iff.1 hh.map).1 htm).trans hh.map
      have ht' : TlsAt wr tm 0 (fun _ => none) 0 := by
        have h0 : TlsAt (w3.alloc (Obj.map #[] 0)) w3.heap.size 0 (fun _ => none) 0 := ⟨.map [], 0, World.ownsMap_made w3 _ _ _, Nat.le_refl _, rfl, fun x => ⟨rfl, fun p e => by cases e⟩⟩
        obtain ⟨D, k, ⟨es, c, hb', F⟩, h2⟩ := h0
        have hb2 : (w3.alloc (Obj.map #[] 0)).heap[w3.heap.size]? = some (Obj.map #[] 0) := by
          show (w3.heap.push _)[w3.heap.size]? = _
          rw [Array.getElem?_push, if_pos rfl]
        rw [hb2] at hb'
        injection hb' with hb'
        injection hb' with e1 e2
        subst e1 e2
        exact ⟨D, k, ⟨#[], 0, hmp, F⟩, h2⟩
      have hszc := hh.bel.size
      have hB3 : B ≤ w3.heap.size := Nat.le_trans hB HT3.out.size
      have hl := hw.len
      have hrow : wr.ownsRow B 93 1 v wbs.length (wbs.map ptrV) := by rw [hl]; exact own_base hw.row (Nat.le_trans hB3 hszc)
      obtain ⟨ρ, G, h1, h2, h3⟩ := LogAt.made (m := m) (f := f) (bk := bk) (kp := kp) (bt := bt) (wr := v) (by rw [hl]; exact hw.blk) hj' hs' ht' hrow (by rw [hl]; exact hw.one) (fun i hi => Nat.le_trans (Nat.le_trans hB3 hszc) (hw.ge _ (by rw [← List.getElem_eq_getD (h := hi)]; exact List.getElem_mem hi))) hw.lt (by rw [hl]; exact ⟨by omega, hn.2⟩) (Nat.le_trans hB3 hh.ge.1) (Nat.le_trans hB3 hh.ge.2) hh.ne
      rw [hl] at h1
      refine ⟨⟨ρ, G, h1, h2, h3⟩, hw.tch.os.trans (hh.bel.os.trans HT3.out.os), hw.tch.tape.trans (hh.bel.tape.trans HT3.out.tape), hw.tch.output.trans (hh.bel.output.trans HT3.out.output), Nat.le_trans HT3.out.size (Nat.le_trans hszc hw.tch.size), fun k hk hne => ?_⟩
      have hk3 := Nat.lt_of_lt_of_le hk HT3.out.size
      rw [hw.tch.block k (by omega) (by omega), hh.bel.block k hk3]
      exact HT3.out.block k hk hne
    have CWk : Hid (∀ W, Calls Tryz.prog 37 #[ptrV lb] W fun e w' => e = .returned (ptrV W.heap.size) ∧ w'.heap[W.heap.size]? = some (Obj.cells (wkC lb W.heap.size wk0 (.slice none 0 0)) 110 (0, 0)) ∧ Below W.heap.size W w' ∧ w'.heap.size = W.heap.size + 1) := fun W => newWorker_any lb W
    clear FA FB CN hh HK HO3 HBM3 y0 y1 y2 y3 y4 y5 z0 z1 z2 z3 z4 z5
    go_wp2_with fail
    go_loopw [34] (fun i wr => ∃ k : Nat, k ≤ n ∧ i = .int .i64 k ∧ ∃ wbs v, NWk wc wr lb k #[.int .i64 (m : Int), .int .i64 (f : Int), .int .i64 (bk : Int), .int .i64 (n : Int), .int .i64 (kp : Int), .int .i64 (bt : Int), ptrV jb, ptrV ms, .slice none 0 0, .slice none 0 0, .slice none 0 0, .slice none 0 0, .slice none 0 0, .slice none 0 0, .slice none 0 0, .map (some tm), .int .i64 0] wbs v) (fun i _ => n - (intOf i).toNat)
    case atStart => exact ⟨0, Nat.zero_le _, rfl, _, _, NW0.out⟩
    case round =>
      obtain ⟨k, hk, rfl, wbs, v, hw⟩ := hrel
      by_cases hlt : k < n
      · obtain ⟨c14, f14⟩ := cell_of (j := 14) (u := v) hw.blk rfl
        obtain ⟨va, vc, rfl, hvc, hvm⟩ := own_slice hw.row
        have HW := hide hw
        have hlbr : lb < wr.heap.size := Nat.lt_of_lt_of_le hlbc hw.tch.size
        have hlbv : some lb ≠ (Value.slice va k vc).ownBlock := fun q => by have := (own_block hw.row q).1; omega
        have hkb : k ≤ 4 := by omega
        unfold maxLen at hvm
        clear hw NW0 FIN
        go_upto_region 9 with fail
        go_region_law
          (first
            | (rw [if_pos (by simp [Region.wanted])]; go_simp; go_at_call 37; refine (CWk.out _).mono ?_; rintro e w5 ⟨rfl, h5, hb5, hsz5⟩; have hb5' : Below wr.heap.size wr w5 := below_drew1 hb5; have q14 := (hb5'.cell (p := ⟨lb, 14, none⟩) hlbr).trans c14; have r14 := cellA (o := Obj.cells #[ptrV wr.heap.size] 93) q14; have HR5 := hide (own_same HW.out.row (fun g hg => hb5'.block g (own_block HW.out.row hg).2.1)); have HB5 := hide hb5'; have H5 := hide h5; clear hb5 hb5' h5 hsz5)
            | (refine step_own _ rfl _ _ 75 rfl wc.heap.size 93 i0 (.pointer none) 1 8 Tryz.underlying75 hi0 hz0 hz1 hz2 rfl (by decide) _ _ _ rfl (HR5.out.alloc _) ⟨w5.heap.size, 0, none⟩ 1 1 [ptrV wr.heap.size] rfl rfl (cells_new _ _ _ _ rfl) (by intro u hu; simp at hu; subst hu; rfl) (by unfold maxLen; omega) (by omega) (by have h1 := HW.out.tch.size; have h2 := HB5.out.size; simp; omega) ?_; intro v6 w6 hown6 hgrow6; obtain ⟨a6, c6, rfl, _, _⟩ := own_slice hown6; have HN := hide (HW.out.more hlbc H5.out HB5.out hown6 rfl hgrow6); have hblk6 := ((hgrow6.block lb (by have h2 := HB5.out.size; simp; omega) hlbv).trans (old_blk _ ((HB5.out.block lb hlbr).trans HW.out.blk))); obtain ⟨s14, g14⟩ := cell_of (j := 14) (u := .slice va k vc) hblk6 rfl; clear hown6 hgrow6 hblk6))
        all_goals (
          go_wp2_with fail
          go_roundw
          case rel => exact ⟨k + 1, by omega, by go_num, _, _, HN.out⟩
          case measure => simp [intOf]; omega)
      · obtain rfl : k = n := by omega
        have HF := hide (FIN.out _ _ _ hw)
        clear hw FIN
        go_wp2_with fail
        go_ret2
        exact ⟨lb, rfl, HF.out⟩
end Go.Proofs.YtkncboinfcnklabGreatDoor

namespace Go.Proofs.YtkncboinfcnklabGreatDoor.Rl
open Go.RowKit Go.Deep Go.Shelf Go.Proofs.YtkncboinfcnklabGreatDoor.Mth

/-! ### append of a whole row that reads as a list -/
theorem own_belowR {w w' : World} {B : Nat} {e : TypeId} {sz : Nat} {v : Value} {n : Nat} {xs : List Value} (h : w.ownsRow B e sz v n xs) (hb : Below w.heap.size w w') : w'.ownsRow B e sz v n xs :=
  own_same h (fun g hg => hb.block g (own_block h hg).2.1)
end Go.Proofs.YtkncboinfcnklabGreatDoor.Rl

namespace Go.Proofs.YtkncboinfcnklabGreatDoor.Rl
open Go.RowKit Go.Deep Go.Shelf Go.Proofs.YtkncboinfcnklabGreatDoor.Mth

theorem set_blk {w : World} {b j : Nat} {C : Array Value} {t : TypeId} {v : Value} (h : w.heap[b]? = some (Obj.cells C t (0, 0))) : (w.setCell ⟨b, j, none⟩ v).heap[b]? = some (Obj.cells (C.setIfInBounds j v) t (0, 0)) := by
  simp [World.setCell, Array.getElem?_modify, h]

end Go.Proofs.YtkncboinfcnklabGreatDoor.Rl
