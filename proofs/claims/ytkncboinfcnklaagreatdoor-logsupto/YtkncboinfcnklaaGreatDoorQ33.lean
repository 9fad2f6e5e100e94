import Derived.Test.YtkncboinfcnklaaGreatDoorQ32
namespace Go.Proofs.YtkncboinfcnklaaGreatDoor.Lw
open Go.RowKit Go.Deep Go.Shelf Go.Proofs.YtkncboinfcnklaaGreatDoor.Mth Go.Proofs.YtkncboinfcnklaaGreatDoor.Rl

/-- The books have changed. -/
theorem HI.books {P : Lg → List Tl → Prop} {Z : Nat → Prop} {w w' : World} {B wb : Nat} {g0 g1 g2 g3 hv ke ks kr ke' ks' kr' : Value} {Ne Ns Nr Ne' Ns' Nr' M M' : Nat} {hs : List Ho} (h : HI P Z w B wb g0 g1 g2 g3 hv ke ks kr Ne Ns Nr M hs none) {X Y : Nat → Prop} (hsz : w.heap.size ≤ w'.heap.size)
    (hfr : ∀ g, g < w.heap.size → ¬ X g → g ≠ wb → some g ≠ ke.ownBlock → some g ≠ ks.ownBlock → some g ≠ kr.ownBlock → w'.heap[g]? = w.heap[g]?) (hX : ∀ g, X g → ¬ Z g ∧ ¬ Mu wb hv ke ks kr (hs.map Ho.hb) g ∧ (∀ j, j < hs.length → (hs.getD j h0).ρ g = 0) ∧ ¬ isN w g)
    (hblk : w'.heap[wb]? = some (Obj.cells (wdC g0 g1 g2 g3 hv ke' ks' kr') 91 (0, 0)))
    (be : Bok (fun g => Z g ∨ Y g) w' B 169 66 3 fE ke' Ne') (bs : Bok (fun g => Z g ∨ Y g) w' B 172 142 3 fS ks' Ns') (br : ∃ F, RowMark F ∧ Bok (fun g => Z g ∨ Y g) w' B 175 75 1 F kr' Nr')
    (nb : ∀ g, (some g = ke'.ownBlock ∨ some g = ks'.ownBlock ∨ some g = kr'.ownBlock) → (some g = ke.ownBlock ∨ some g = ks.ownBlock ∨ some g = kr.ownBlock) ∨ w.heap.size ≤ g)
    (hY : ∀ g, Y g → g < w'.heap.size ∧ (X g ∨ w.heap.size ≤ g) ∧ some g ≠ ke'.ownBlock ∧ some g ≠ ks'.ownBlock ∧ some g ≠ kr'.ownBlock) (hM : M ≤ M') (hmb : Ne' ≤ M' ∧ Ns' ≤ 8 * M' ∧ Nr' ≤ M') :
    HI P (fun g => Z g ∨ Y g) w' B wb g0 g1 g2 g3 hv ke' ks' kr' Ne' Ns' Nr' M' hs none := by
  have mE : ∀ g, some g = ke.ownBlock → Mu wb hv ke ks kr (hs.map Ho.hb) g := fun g q => Or.inr (Or.inr (Or.inl q))
  have mS : ∀ g, some g = ks.ownBlock → Mu wb hv ke ks kr (hs.map Ho.hb) g := fun g q => Or.inr (Or.inr (Or.inr (Or.inl q)))
  have mR : ∀ g, some g = kr.ownBlock → Mu wb hv ke ks kr (hs.map Ho.hb) g := fun g q => Or.inr (Or.inr (Or.inr (Or.inr (Or.inl q))))
  have mW : Mu wb hv ke ks kr (hs.map Ho.hb) wb := Or.inl rfl
  have fr : ∀ g, g < w.heap.size → ¬ X g → ¬ Mu wb hv ke ks kr (hs.map Ho.hb) g → w'.heap[g]? = w.heap[g]? := fun g h1 h2 h3 => hfr g h1 h2 (fun e => h3 (by rw [e]; exact mW)) (fun e => h3 (mE g e)) (fun e => h3 (mS g e)) (fun e => h3 (mR g e))
  have hz : ∀ g, Z g → w'.heap[g]? = w.heap[g]? := fun g hg => fr g (h.zm g hg).1 (fun q => (hX g q).1 hg) (h.zm g hg).2.1
  have hty : ∀ {g : Nat} {C : Array Value} {t : TypeId}, w.heap[g]? = some (Obj.cells C t (0, 0)) → Mu wb hv ke ks kr (hs.map Ho.hb) g → (t = 152 ∨ t = 155) → w'.heap[g]? = w.heap[g]? := fun {g C t} hg hm ht => by
    have hl := (Array.getElem?_eq_some_iff.1 hg).1
    refine hfr g hl (fun q => (hX g q).2.1 hm) (fun e => ?_) (fun e => ?_) (fun e => ?_) (fun e => ?_)
    · subst e
      have := cells_ty hg h.blk
      subst this
      rcases ht with ht | ht <;> exact absurd ht (by decide)
    · obtain ⟨q, h1, _⟩ := h.be
      obtain ⟨_, _, D, hD⟩ := own_block h1 e
      have := cells_ty hg hD
      subst this
      rcases ht with ht | ht <;> exact absurd ht (by decide)
    · obtain ⟨q, h1, _⟩ := h.bs
      obtain ⟨_, _, D, hD⟩ := own_block h1 e
      have := cells_ty hg hD
      subst this
      rcases ht with ht | ht <;> exact absurd ht (by decide)
    · obtain ⟨F, _, q, h1, _⟩ := h.br
      obtain ⟨_, _, D, hD⟩ := own_block h1 e
      have := cells_ty hg hD
      subst this
      rcases ht with ht | ht <;> exact absurd ht (by decide)
  have hr0 : ∀ g, w.heap.size ≤ g → ∀ j, j < hs.length → (hs.getD j h0).ρ g = 0 := fun g hg j hj => by
    by_cases q : (hs.getD j h0).ρ g = 0
    · exact q
    · have := (h.lt j hj g q).1; omega
  have hmu : ∀ {g : Nat}, Mu wb hv ke' ks' kr' (hs.map Ho.hb) g → Mu wb hv ke ks kr (hs.map Ho.hb) g ∨ (w.heap.size ≤ g ∧ (some g = ke'.ownBlock ∨ some g = ks'.ownBlock ∨ some g = kr'.ownBlock)) := fun {g} hg => by
    have key : (some g = ke'.ownBlock ∨ some g = ks'.ownBlock ∨ some g = kr'.ownBlock) → Mu wb hv ke ks kr (hs.map Ho.hb) g ∨ (w.heap.size ≤ g ∧ (some g = ke'.ownBlock ∨ some g = ks'.ownBlock ∨ some g = kr'.ownBlock)) := fun q => by
      rcases nb g q with (e | e | e) | e
      · exact Or.inl (mE g e)
      · exact Or.inl (mS g e)
      · exact Or.inl (mR g e)
      · exact Or.inr ⟨e, q⟩
    rcases hg with q | q | q | q | q | q
    · exact Or.inl (Or.inl q)
    · exact Or.inl (Or.inr (Or.inl q))
    · exact key (Or.inl q)
    · exact key (Or.inr (Or.inl q))
    · exact key (Or.inr (Or.inr q))
    · exact Or.inl (Or.inr (Or.inr (Or.inr (Or.inr (Or.inr q)))))
  refine ⟨hblk, h.ge, be, bs, br, own_same h.row (fun g hg => ?_), fun j hj => ?_, fun j hj hne => ?_, h.hge, fun j hj k hk => ?_, h.dis, fun g hg => ?_, fun g hg j hj => ?_, ?_⟩
  · obtain ⟨_, _, D, hD⟩ := own_block h.row hg
    exact hty hD (Or.inr (Or.inl hg)) (Or.inl rfl)
  · exact (hty (h.hob j hj) (Or.inr (Or.inr (Or.inr (Or.inr (Or.inr (hb_mem hj)))))) (Or.inr rfl)).trans (h.hob j hj)
  · refine (h.one j hj (by simp)).same (fun g q => fr g (by rcases q with q | q; exact (h.lt j hj g q).1; exact isN_lt q) (fun s => ?_) (fun s => ?_)) hz hsz (fun _ q => Or.inl q) hM
    · rcases q with q | q
      · exact q ((hX g s).2.2.1 j hj)
      · exact (hX g s).2.2.2 q
    · rcases q with q | q
      · exact q (h.rm g s j hj)
      · exact h.mn s q
  · have := h.lt j hj k hk
    exact ⟨by omega, this.2⟩
  · rcases hg with hg | hg
    · obtain ⟨z1, z2, z3⟩ := h.zm g hg
      refine ⟨by omega, fun hm => ?_, z3⟩
      rcases hmu hm with q | q
      · exact z2 q
      · omega
    · obtain ⟨y1, y2, y3, y4, y5⟩ := hY g hg
      refine ⟨y1, fun hm => ?_, fun j hj => ?_⟩
      · rcases hmu hm with q | ⟨_, q | q | q⟩
        · rcases y2 with y2 | y2
          · exact (hX g y2).2.1 q
          · have := h.mlt q; omega
        · exact y3 q
        · exact y4 q
        · exact y5 q
      · rcases y2 with y2 | y2
        · exact (hX g y2).2.2.1 j hj
        · exact hr0 g y2 j hj
  · rcases hmu hg with q | q
    · exact h.rm g q j hj
    · exact hr0 g q.1 j hj
  · have := h.mb
    omega

/-- One list more in a book. -/
theorem Bok.more {Z Z' : Nat → Prop} {w w' : World} {B : Nat} {T e : TypeId} {sz : Nat} {F F' : Nat → Nat → Value} {v' : Value} {N n : Nat} {Q : Qd} {q : Nat → Qd} (hq : ∀ i, i < N → ∀ u, (u = (q i).l ∨ u = (q i).a ∨ u = (q i).b ∨ u = (q i).c) → (∃ n, n ≤ 4194304 ∧ RdM w e sz u n (F i)) ∧ ∀ g, some g = u.ownBlock → Z g)
    (hz : ∀ g, Z g → w'.heap[g]? = w.heap[g]?) (hZ : ∀ g, Z g → Z' g) (hrow : w'.ownsRow B T 5 v' (N + 1) ((List.range N).flatMap (qc q) ++ [Q.l, Q.a, Q.b, Q.c, .int .i64 (N : Int)])) (hF : ∀ i, i < N → F' i = F i) (hn : n + 3 ≤ 4194304)
    (rl : RdM w' e sz Q.l n (F' N)) (ra : RdM w' e sz Q.a (n + 1) (F' N)) (rb : RdM w' e sz Q.b (n + 2) (F' N)) (rc : RdM w' e sz Q.c (n + 3) (F' N)) (hg : ∀ g, (some g = Q.l.ownBlock ∨ some g = Q.a.ownBlock ∨ some g = Q.b.ownBlock ∨ some g = Q.c.ownBlock) → Z' g) : Bok Z' w' B T e sz F' v' (N + 1) := by
  refine ⟨fun i => if i < N then q i else Q, ?_, fun i hi u hu => ?_⟩
  · have e1 : (List.range (N + 1)).flatMap (qc (fun i => if i < N then q i else Q)) = (List.range N).flatMap (qc q) ++ [Q.l, Q.a, Q.b, Q.c, .int .i64 (N : Int)] := by
      rw [List.range_succ, List.flatMap_append]
      congr 1
      · rw [List.flatMap_def, List.flatMap_def]
        congr 1
        apply List.map_congr_left
        intro i hi
        have := List.mem_range.1 hi
        simp [qc, this]
      · simp [qc]
    rw [e1]
    exact hrow
  · by_cases hi2 : i < N
    · simp only [hi2, if_true] at hu
      obtain ⟨⟨k, hk, hr⟩, hg'⟩ := hq i hi2 u hu
      exact ⟨⟨k, hk, by rw [hF i hi2]; exact RdM.same' hr (fun g s => hz g (hg' g s))⟩, fun g s => hZ g (hg' g s)⟩
    · have : i = N := by omega
      subst this
      simp only [Nat.lt_irrefl, if_false] at hu
      rcases hu with rfl | rfl | rfl | rfl
      · exact ⟨⟨n, by omega, rl⟩, fun g s => hg g (Or.inl s)⟩
      · exact ⟨⟨n + 1, by omega, ra⟩, fun g s => hg g (Or.inr (Or.inl s))⟩
      · exact ⟨⟨n + 2, by omega, rb⟩, fun g s => hg g (Or.inr (Or.inr (Or.inl s)))⟩
      · exact ⟨⟨n + 3, hn, rc⟩, fun g s => hg g (Or.inr (Or.inr (Or.inr s)))⟩
end Go.Proofs.YtkncboinfcnklaaGreatDoor.Lw

namespace Go.Proofs.YtkncboinfcnklaaGreatDoor.Lw
open Go.RowKit Go.Deep Go.Shelf Go.Proofs.YtkncboinfcnklaaGreatDoor.Mth Go.Proofs.YtkncboinfcnklaaGreatDoor.Rl

theorem ne_ty {w : World} {B1 B2 g : Nat} {T1 T2 : TypeId} {s1 s2 n1 n2 : Nat} {v1 v2 : Value} {x1 x2 : List Value} (h1 : w.ownsRow B1 T1 s1 v1 n1 x1) (h2 : w.ownsRow B2 T2 s2 v2 n2 x2) (hT : T1 ≠ T2) (hg : some g = v1.ownBlock) : some g ≠ v2.ownBlock := fun e => by
  obtain ⟨_, _, D, hD⟩ := own_block h1 hg
  obtain ⟨_, _, E, hE⟩ := own_block h2 e
  exact hT (cells_ty hD hE)
theorem rdm_ty {w : World} {e : TypeId} {sz n g : Nat} {v : Value} {f : Nat → Value} (h : RdM w e sz v n f) (hg : some g = v.ownBlock) (h0 : 0 < n) : ∃ C, w.heap[g]? = some (Obj.cells C e (0, 0)) := by
  obtain ⟨a, c, rfl, _, _, h3⟩ := h
  rcases h3 with h3 | ⟨b, C, rfl, h4, _⟩
  · omega
  · injection hg with hg
    rw [hg]
    exact ⟨C, h4⟩

theorem keepE_any {P : Lg → List Tl → Prop} {Z : Nat → Prop} {w : World} {B wb B0 : Nat} {g0 g1 g2 g3 hv ke ks kr : Value} {Ne Ns Nr M : Nat} {hs : List Ho} (h : HI P Z w B wb g0 g1 g2 g3 hv ke ks kr Ne Ns Nr M hs none) {v : Value} {n : Nat} {ys : List Value} (hown : w.ownsRow B0 66 3 v n ys) (hn : n ≤ 1100000) (hM : M ≤ 400000) (hB0 : B0 ≤ w.heap.size) (hBB : B ≤ B0) (hmu : ∀ g, Mu wb hv ke ks kr (hs.map Ho.hb) g → g < B0)
    (hX : ∀ g, some g = v.ownBlock → ¬ Z g ∧ ∀ j, j < hs.length → (hs.getD j h0).ρ g = 0) :
    Calls Tryz.prog 121 #[.pointer (some ⟨wb, 9, none⟩), v] w fun e w' => e = .returned (.tuple #[]) ∧ ∃ Z' ke', (∀ g, Z g → Z' g) ∧ HI P Z' w' B wb g0 g1 g2 g3 hv ke' ks kr (Ne + 1) Ns Nr (M + 1) hs none ∧ Below B w w' ∧ (∀ g, g < w.heap.size → some g ≠ v.ownBlock → ¬ Mu wb hv ke ks kr (hs.map Ho.hb) g → w'.heap[g]? = w.heap[g]?) ∧ (∀ g, Mu wb hv ke' ks kr (hs.map Ho.hb) g → Mu wb hv ke ks kr (hs.map Ho.hb) g ∨ w.heap.size ≤ g) := by
  have hmb := h.mb
  obtain ⟨q, hbe, hbq⟩ := h.be
  have mW : Mu wb hv ke ks kr (hs.map Ho.hb) wb := Or.inl rfl
  have mE : ∀ g, some g = ke.ownBlock → Mu wb hv ke ks kr (hs.map Ho.hb) g := fun g q => Or.inr (Or.inr (Or.inl q))
  refine (keepEntries_kb w B0 wb B v ke n Ne ys _ (wdC g0 g1 g2 g3 hv ke ks kr) hown (hmu wb mW) hB0 h.blk rfl rfl hbe (fun g hg => hmu g (mE g hg)) hBB (by omega) (by omega)).mono ?_
  rintro e w' ⟨rfl, ke', va, vb, vc, hk, hkn, hnb, hfr⟩
  have hvM : ∀ g, some g = v.ownBlock → ¬ Mu wb hv ke ks kr (hs.map Ho.hb) g := fun g hg hm => by
    have h1 := hmu g hm
    have h2 := (own_block hown hg).1
    omega
  have hvN : ∀ g, some g = v.ownBlock → ¬ isN w g := fun g hg => by
    obtain ⟨_, _, D, hD⟩ := own_block hown hg
    rintro ⟨C', fr, h3⟩
    exact absurd (cells_ty hD h3) (by decide)
  have hsz := hk.size
  have hks : ∀ {T : TypeId} {sz N : Nat} {u : Value} {xs : List Value}, w.ownsRow B T sz u N xs → T ≠ 91 → T ≠ 169 → T ≠ 66 → ∀ g, some g = u.ownBlock → w'.heap[g]? = w.heap[g]? := fun {T sz N u xs} ho t1 t2 t3 g hg => by
    obtain ⟨_, hl, D, hD⟩ := own_block ho hg
    exact hfr g hl (ne_ty ho hown t3 hg) (fun e => by subst e; exact t1 (cells_ty hD h.blk)) (ne_ty ho hbe t2 hg)
  have hz : ∀ g, Z g → w'.heap[g]? = w.heap[g]? := fun g hg => hfr g (h.zm g hg).1 (fun e => (hX g e).1 hg) (fun e => (h.zm g hg).2.1 (by rw [e]; exact mW)) (fun e => (h.zm g hg).2.1 (mE g e))
  have hq4 : ∀ g, (some g = v.ownBlock ∨ some g = va.ownBlock ∨ some g = vb.ownBlock ∨ some g = vc.ownBlock) → g < w'.heap.size ∧ some g ≠ ke'.ownBlock := fun g hg => by
    by_cases hv0 : some g = v.ownBlock
    · have hl := (own_block hown hv0).2.1
      refine ⟨by omega, fun e => ?_⟩
      rcases hnb g e with e | e
      · exact hvM g hv0 (mE g e)
      · omega
    have hty : (∃ C, w'.heap[g]? = some (Obj.cells C 66 (0, 0))) := by
      rcases hg with hg | hg | hg | hg
      · exact absurd hg hv0
      · exact rdm_ty hk.ra hg (by omega)
      · exact rdm_ty hk.rb hg (by omega)
      · exact rdm_ty hk.rc hg (by omega)
    obtain ⟨C, hC⟩ := hty
    refine ⟨(Array.getElem?_eq_some_iff.1 hC).1, fun e => ?_⟩
    obtain ⟨_, _, D, hD⟩ := own_block hk.row e
    exact absurd (cells_ty hC hD) (by decide)
  have key := h.books (w' := w') (ke' := ke') (ks' := ks) (kr' := kr) (Ne' := Ne + 1) (Ns' := Ns) (Nr' := Nr) (M' := M + 1) (X := fun g => some g = v.ownBlock) (Y := fun g => some g = v.ownBlock ∨ some g = va.ownBlock ∨ some g = vb.ownBlock ∨ some g = vc.ownBlock) hsz (fun g h1 h2 h3 h4 _ _ => hfr g h1 h2 h3 h4) (fun g hg => ⟨(hX g hg).1, hvM g hg, (hX g hg).2, hvN g hg⟩) hk.wblk
    (Bok.more hbq hz (fun _ q => Or.inl q) hk.row (fun _ _ => rfl) (n := n) (by omega) hk.rl hk.ra hk.rb hk.rc (fun g hg => Or.inr hg))
    (by obtain ⟨q2, h1, h2⟩ := h.bs; exact Bok.same ⟨q2, h1, h2⟩ (hks h1 (by decide) (by decide) (by decide)) hz (fun _ q => Or.inl q))
    (by obtain ⟨F, hF, q2, h1, h2⟩ := h.br; exact ⟨F, hF, Bok.same ⟨q2, h1, h2⟩ (hks h1 (by decide) (by decide) (by decide)) hz (fun _ q => Or.inl q)⟩)
    (fun g hg => by
      rcases hg with hg | hg | hg
      · rcases hnb g hg with e | e
        · exact Or.inl (Or.inl e)
        · exact Or.inr e
      · exact Or.inl (Or.inr (Or.inl hg))
      · exact Or.inl (Or.inr (Or.inr hg)))
    (fun g hg => ⟨(hq4 g hg).1, hkn g hg, (hq4 g hg).2, fun e => ?_, fun e => ?_⟩) (by omega) (by omega)
  · refine ⟨rfl, _, ke', fun g hg => Or.inl hg, key, ⟨hk.os, hk.tape, hk.output, hsz, fun g hg => hk.same g (by omega) (fun e => by have := h.ge; omega) (fun e => by have := (own_block hbe e).1; omega)⟩, fun g h1 h2 h3 => hfr g h1 h2 (fun e => h3 (by rw [e]; exact mW)) (fun e => h3 (mE g e)), fun g hg => ?_⟩
    rcases hg with q | q | q | q
    · exact Or.inl (Or.inl q)
    · exact Or.inl (Or.inr (Or.inl q))
    · rcases hnb g q with e | e
      · exact Or.inl (mE g e)
      · exact Or.inr e
    · exact Or.inl (Or.inr (Or.inr (Or.inr q)))
  · obtain ⟨q2, h1, _⟩ := h.bs
    rcases hkn g hg with e2 | e2
    · exact hvM g e2 (Or.inr (Or.inr (Or.inr (Or.inl e))))
    · have := (own_block h1 e).2.1
      omega
  · obtain ⟨F, _, q2, h1, _⟩ := h.br
    rcases hkn g hg with e2 | e2
    · exact hvM g e2 (Or.inr (Or.inr (Or.inr (Or.inr (Or.inl e)))))
    · have := (own_block h1 e).2.1
      omega

/-- No rows are kept. -/
theorem keepRN_any {P : Lg → List Tl → Prop} {Z : Nat → Prop} {w : World} {B wb : Nat} {g0 g1 g2 g3 hv ke ks kr : Value} {Ne Ns Nr M : Nat} {hs : List Ho} (h : HI P Z w B wb g0 g1 g2 g3 hv ke ks kr Ne Ns Nr M hs none) (hM : M ≤ 400000) (hNr : Nr + 1 ≤ M) (hBw : B ≤ w.heap.size) :
    Calls Tryz.prog 136 #[.pointer (some ⟨wb, 9, none⟩), .slice none 0 0] w fun e w' => e = .returned (.tuple #[]) ∧ ∃ Z' kr', (∀ g, Z g → Z' g) ∧ HI P Z' w' B wb g0 g1 g2 g3 hv ke ks kr' Ne Ns (Nr + 1) M hs none ∧ Below B w w' ∧ (∀ g, g < w.heap.size → ¬ Mu wb hv ke ks kr (hs.map Ho.hb) g → w'.heap[g]? = w.heap[g]?) := by
  have hmb := h.mb
  obtain ⟨F, hF, q, hbr, hbq⟩ := h.br
  have mW : Mu wb hv ke ks kr (hs.map Ho.hb) wb := Or.inl rfl
  have mR : ∀ g, some g = kr.ownBlock → Mu wb hv ke ks kr (hs.map Ho.hb) g := fun g q => Or.inr (Or.inr (Or.inr (Or.inr (Or.inl q))))
  refine (keepRowsN_any w w.heap.size wb B kr Nr _ (wdC g0 g1 g2 g3 hv ke ks kr) (h.mlt mW) (Nat.le_refl _) h.blk rfl rfl hbr (fun g hg => h.mlt (mR g hg)) hBw (by omega)).mono ?_
  rintro e w' ⟨rfl, kr', va, vb, vc, hk, hkn, hnb⟩
  have hfr : ∀ g, g < w.heap.size → g ≠ wb → some g ≠ kr.ownBlock → w'.heap[g]? = w.heap[g]? := hk.same
  have hsz := hk.size
  have hks : ∀ {T : TypeId} {sz N : Nat} {u : Value} {xs : List Value}, w.ownsRow B T sz u N xs → T ≠ 91 → T ≠ 175 → ∀ g, some g = u.ownBlock → w'.heap[g]? = w.heap[g]? := fun {T sz N u xs} ho t1 t2 g hg => by
    obtain ⟨_, hl, D, hD⟩ := own_block ho hg
    exact hfr g hl (fun e => by subst e; exact t1 (cells_ty hD h.blk)) (ne_ty ho hbr t2 hg)
  have hz : ∀ g, Z g → w'.heap[g]? = w.heap[g]? := fun g hg => hfr g (h.zm g hg).1 (fun e => (h.zm g hg).2.1 (by rw [e]; exact mW)) (fun e => (h.zm g hg).2.1 (mR g e))
  have hq4 : ∀ g, (some g = va.ownBlock ∨ some g = vb.ownBlock ∨ some g = vc.ownBlock) → g < w'.heap.size ∧ some g ≠ kr'.ownBlock := fun g hg => by
    have hty : (∃ C, w'.heap[g]? = some (Obj.cells C 75 (0, 0))) := by
      rcases hg with hg | hg | hg
      · exact rdm_ty hk.ra hg (by omega)
      · exact rdm_ty hk.rb hg (by omega)
      · exact rdm_ty hk.rc hg (by omega)
    obtain ⟨C, hC⟩ := hty
    refine ⟨(Array.getElem?_eq_some_iff.1 hC).1, fun e => ?_⟩
    obtain ⟨_, _, D, hD⟩ := own_block hk.row e
    exact absurd (cells_ty hC hD) (by decide)
  have hge : ∀ g, (some g = va.ownBlock ∨ some g = vb.ownBlock ∨ some g = vc.ownBlock) → w.heap.size ≤ g := fun g hg => by
    rcases hkn g (Or.inr hg) with e | e
    · cases e
    · exact e
  have hFn : ∀ i, i < Nr → (fun i => if i = Nr then fR w.heap.size Nr else F i) i = F i := fun i hi => if_neg (by omega)
  have key := h.books (w' := w') (ke' := ke) (ks' := ks) (kr' := kr') (Ne' := Ne) (Ns' := Ns) (Nr' := Nr + 1) (M' := M) (X := fun _ => False) (Y := fun g => some g = va.ownBlock ∨ some g = vb.ownBlock ∨ some g = vc.ownBlock) hsz (fun g h1 _ h3 _ _ h4 => hfr g h1 h3 h4) (fun g hg => hg.elim) hk.wblk
    (by obtain ⟨q2, h1, h2⟩ := h.be; exact Bok.same ⟨q2, h1, h2⟩ (hks h1 (by decide) (by decide)) hz (fun _ q => Or.inl q))
    (by obtain ⟨q2, h1, h2⟩ := h.bs; exact Bok.same ⟨q2, h1, h2⟩ (hks h1 (by decide) (by decide)) hz (fun _ q => Or.inl q))
    ⟨fun i => if i = Nr then fR w.heap.size Nr else F i, fun i j => by
      by_cases e : i = Nr
      · subst e
        exact ⟨some ⟨w.heap.size, 0, none⟩, i + 1, by simp [fR]⟩
      · obtain ⟨a, c, h1⟩ := hF i j
        exact ⟨a, c, by simp [e, h1]⟩, Bok.more hbq hz (fun _ q => Or.inl q) hk.row hFn (n := 0) (by omega) (by rw [if_pos rfl]; exact hk.rl) (by rw [if_pos rfl]; exact hk.ra) (by rw [if_pos rfl]; exact hk.rb) (by rw [if_pos rfl]; exact hk.rc) (fun g hg => by
      rcases hg with hg | hg
      · cases hg
      · exact Or.inr hg)⟩
    (fun g hg => by
      rcases hg with hg | hg | hg
      · exact Or.inl (Or.inl hg)
      · exact Or.inl (Or.inr (Or.inl hg))
      · rcases hnb g hg with e | e
        · exact Or.inl (Or.inr (Or.inr e))
        · exact Or.inr e)
    (fun g hg => ⟨(hq4 g hg).1, Or.inr (hge g hg), fun e => ?_, fun e => ?_, (hq4 g hg).2⟩) (by omega) (by omega)
  · exact ⟨rfl, _, kr', fun g hg => Or.inl hg, key, ⟨hk.os, hk.tape, hk.output, hsz, fun g hg => hfr g (by omega) (fun e => by have := h.ge; omega) (fun e => by have := (own_block hbr e).1; omega)⟩, fun g h1 h3 => hfr g h1 (fun e => h3 (by rw [e]; exact mW)) (fun e => h3 (mR g e))⟩
  · obtain ⟨q2, h1, _⟩ := h.be
    have := (own_block h1 e).2.1
    have := hge g hg
    omega
  · obtain ⟨q2, h1, _⟩ := h.bs
    have := (own_block h1 e).2.1
    have := hge g hg
    omega
end Go.Proofs.YtkncboinfcnklaaGreatDoor.Lw
