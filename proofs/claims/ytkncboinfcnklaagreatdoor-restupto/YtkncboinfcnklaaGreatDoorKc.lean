import Derived.Test.YtkncboinfcnklaaGreatDoorGm
import Derived.Test.YtkncboinfcnklaaGreatDoorKD
namespace Go.Proofs.YtkncboinfcnklaaGreatDoor.Kp
open Go.RowKit Go.Deep Go.Shelf Go.Proofs.YtkncboinfcnklaaGreatDoor.Mth

/-- A follower: its number, its word, the place of the first entry that it must tell next; is it there? -/
structure Fo where
  num : Nat
  word : ByteArray
  next : Nat
  there : Bool
def fo0 : Fo := ⟨0, ⟨#[]⟩, 0, false⟩
def foC (f : Fo) : List Value := [.int .i64 (f.num : Int), .string f.word, .int .i64 (f.next : Int), .bool f.there]
/-- A shelf's cells. -/
def shC (lb hb : Nat) (L : Lg) (av tv : Value) : Array Value := #[ptrV lb, ptrV hb, .int .i64 (L.memory : Int), .int .i64 (L.fan : Int), .int .i64 (L.back : Int), .int .i64 (L.wks.length : Int), .int .i64 (L.keep : Int), .int .i64 (L.batch : Int), av, .int .i64 (L.clock : Int), .slice none 0 0, .int .i64 0, tv, .bool true]
/-- A shelf in memory, but for its log. -/
structure ShM (w : World) (ρ : Nat → Nat) (B sb : Nat) (C : Array Value) (all : List Ent) (tls : List Fo) (av tv : Value) : Prop where
  blk : w.heap[sb]? = some (Obj.cells C 61 (0, 0))
  row : w.ownsRow B 66 3 av all.length (all.flatMap eC)
  trow : w.ownsRow B 63 4 tv tls.length (tls.flatMap foC)
  rs : ρ sb = 0
  ra : ∀ g, some g = av.ownBlock → ρ g = 0
  rt : ∀ g, some g = tv.ownBlock → ρ g = 0
  ge : B ≤ sb
theorem ShM.keep {w w' : World} {ρ ρ' : Nat → Nat} {B sb : Nat} {C : Array Value} {all : List Ent} {tls : List Fo} {av tv : Value} (h : ShM w ρ B sb C all tls av tv) (hs : LStp w w' ρ ρ') : ShM w' ρ' B sb C all tls av tv := by
  have hsb := (Array.getElem?_eq_some_iff.1 h.blk).1
  exact ⟨(hs.tch.block sb hsb (fun q => q.1 h.rs)).trans h.blk, own_same h.row (fun g hg => hs.tch.block g (own_block h.row hg).2.1 (fun q => q.1 (h.ra g hg))), own_same h.trow (fun g hg => hs.tch.block g (own_block h.trow hg).2.1 (fun q => q.1 (h.rt g hg))), hs.old sb hsb h.rs, fun g hg => hs.old g (own_block h.row hg).2.1 (h.ra g hg), fun g hg => hs.old g (own_block h.trow hg).2.1 (h.rt g hg), h.ge⟩
theorem ShM.below {w w' : World} {ρ : Nat → Nat} {B sb : Nat} {C : Array Value} {all : List Ent} {tls : List Fo} {av tv : Value} (h : ShM w ρ B sb C all tls av tv) (hb : Below w.heap.size w w') : ShM w' ρ B sb C all tls av tv :=
  h.keep ⟨tch_below hb, fun _ _ q => q⟩
/-- The log does not notice what is not its own. -/
theorem off {w w' : World} {ρ : Nat → Nat} {B N lb : Nat} {G : Gh} {L : Lg} (h : LogAt w ρ B N lb G L) {S : Nat → Prop} (ht : Tch S w w') (hS : ∀ k, k < w.heap.size → S k → ρ k = 0 ∧ ¬ isN w k) : LogAt w' ρ B N lb G L :=
  h.same (fun g hg => by
    have hlt : g < w.heap.size := by
      rcases hg with q | q
      · exact (h.x.lt g q).1
      · exact isN_lt q
    refine ht.block g hlt (fun s => ?_)
    obtain ⟨s1, s2⟩ := hS g hlt s
    rcases hg with q | q
    · exact q s1
    · exact s2 q) ht.size
theorem notN' {w : World} {k : Nat} {C : Array Value} {t : TypeId} {fr : Nat × Nat} (h : w.heap[k]? = some (Obj.cells C t fr)) (ht : t ≠ 325) : ¬ isN w k := fun ⟨_C', _fr', q⟩ => ht (cells_ty h q)
/-- A field of the shelf is set. -/
theorem ShM.set {w : World} {ρ : Nat → Nat} {B N lb sb : Nat} {G : Gh} {L : Lg} {C : Array Value} {all : List Ent} {tls : List Fo} {av tv : Value} (hl : LogAt w ρ B N lb G L) (h : ShM w ρ B sb C all tls av tv) (j : Nat) (v : Value) :
    LogAt (w.setCell ⟨sb, j, none⟩ v) ρ B N lb G L ∧ ShM (w.setCell ⟨sb, j, none⟩ v) ρ B sb (C.setIfInBounds j v) all tls av tv ∧ (B ≤ w.heap.size → Below B w (w.setCell ⟨sb, j, none⟩ v)) := by
  have hT : Tch (fun k => k = sb) w (w.setCell ⟨sb, j, none⟩ v) := ⟨rfl, rfl, rfl, by simp, fun k _ hne => set_other hne⟩
  refine ⟨off hl hT (fun k _ e => by rw [e]; exact ⟨h.rs, notN' h.blk (by decide)⟩), ⟨setCell_blk h.blk, own_set_other h.row h.blk (by decide), own_set_other h.trow h.blk (by decide), h.rs, h.ra, h.rt, h.ge⟩, fun hB => below_tch (Below.refl B w) hT (fun k e => by rw [e]; exact h.ge) hB⟩
/-- An entry more. -/
theorem ShM.more {w W5 : World} {ρ : Nat → Nat} {B N lb sb : Nat} {G : Gh} {L : Lg} {C : Array Value} {all : List Ent} {tls : List Fo} {av tv v5 : Value} {e : Ent} {o : Obj} (hl : LogAt w ρ B N lb G L) (h : ShM w ρ B sb C all tls av tv) (hB : B ≤ w.heap.size)
    (o5 : W5.ownsRow B 66 3 v5 (all.length + 1) (all.flatMap eC ++ eC e)) (g6 : (w.alloc o).grownBy W5 av.ownBlock) (n5 : v5.ownBlock = av.ownBlock ∨ v5.ownBlock = some (w.alloc o).heap.size) :
    W5.heap[sb]? = some (Obj.cells C 61 (0, 0)) ∧ LogAt (W5.setCell ⟨sb, 8, none⟩ v5) ρ B N lb G L ∧ ShM (W5.setCell ⟨sb, 8, none⟩ v5) ρ B sb (C.setIfInBounds 8 v5) (all ++ [e]) tls v5 tv ∧ Below B w (W5.setCell ⟨sb, 8, none⟩ v5) := by
  have hsb := (Array.getElem?_eq_some_iff.1 h.blk).1
  have hsz5 : w.heap.size ≤ W5.heap.size := by have := g6.size; simp at this; omega
  have hfar : ∀ g, g < w.heap.size → some g ≠ av.ownBlock → W5.heap[g]? = w.heap[g]? := fun g hg hne => by
    rw [g6.block g (by simp; omega) hne, _root_.Go.heap_alloc_old w o (r := g) hg]
  have hsbv : some sb ≠ av.ownBlock := fun q => by
    obtain ⟨_, _, D, hD⟩ := own_block h.row q
    exact absurd (cells_ty h.blk hD) (by decide)
  have hblk5 := (hfar sb hsb hsbv).trans h.blk
  have hT : Tch (fun k => some k = av.ownBlock) w W5 := ⟨g6.os, g6.tape, g6.output, hsz5, fun k hk hne => hfar k hk hne⟩
  have hl5 : LogAt W5 ρ B N lb G L := off hl hT (fun k _ q => ⟨h.ra k q, by
    obtain ⟨_, _, D, hD⟩ := own_block h.row q
    exact notN' hD (by decide)⟩)
  have hm5 : ShM W5 ρ B sb C (all ++ [e]) tls v5 tv := by
    refine ⟨hblk5, by rw [List.length_append, List.flatMap_append]; simpa using o5, own_same h.trow (fun g hg => hfar g (own_block h.trow hg).2.1 (fun q => ?_)), h.rs, fun g hg => ?_, h.rt, h.ge⟩
    · obtain ⟨_, _, D, hD⟩ := own_block h.trow hg
      obtain ⟨_, _, D', hD'⟩ := own_block h.row q
      exact absurd (cells_ty hD hD') (by decide)
    · rcases n5 with q | q
      · rw [q] at hg; exact h.ra g hg
      · rw [q] at hg
        injection hg with hg
        exact hl.free (by rw [hg]; simp)
  obtain ⟨a1, a2, a3⟩ := ShM.set hl5 hm5 8 v5
  have hB5 : Below B w W5 := below_tch (Below.refl B w) hT (fun k q => (own_block h.row q).1) hB
  exact ⟨hblk5, a1, a2, hB5.trans (a3 (Nat.le_trans hB hsz5))⟩

/-- The followers, and the tails of the log. -/
structure TlR (L : Lg) (tls : List Fo) (n : Nat) : Prop where
  num : ∀ i, i < tls.length → (tls.getD i fo0).num = i ∧ (tls.getD i fo0).word ∈ wds ∧ (tls.getD i fo0).next ≤ n
  at_ : ∀ i, i < tls.length → L.tls (i : Int) = if (tls.getD i fo0).there then some ((tls.getD i fo0).word, (tls.getD i fo0).next) else none
  out : ∀ x : Int, (x < 0 ∨ (tls.length : Int) ≤ x) → L.tls x = none
  subs : L.subs = tls.length
  few : L.tn ≤ 4
theorem TlR.mono {L L' : Lg} {tls : List Fo} {n n' : Nat} (h : TlR L tls n) (hn : n ≤ n') (h1 : L'.tls = L.tls) (h2 : L'.subs = L.subs) (h3 : L'.tn = L.tn) : TlR L' tls n' :=
  ⟨fun i hi => ⟨(h.num i hi).1, (h.num i hi).2.1, Nat.le_trans (h.num i hi).2.2 hn⟩, fun i hi => by rw [h1]; exact h.at_ i hi, fun x hx => by rw [h1]; exact h.out x hx, by rw [h2]; exact h.subs, by rw [h3]; exact h.few⟩
/-- A shelf. -/
structure Sh (w : World) (ρ : Nat → Nat) (B N M lb sb hb : Nat) (G : Gh) (L : Lg) (all : List Ent) (tls : List Fo) (av tv : Value) : Prop where
  log : LogAt w ρ B N lb G L
  mem : ShM w ρ B sb (shC lb hb L av tv) all tls av tv
  inv : Inv L all
  left : G.left = -1
  bud : G.dt.size ≤ 64 * M ∧ all.length ≤ M ∧ tls.length ≤ M
  tl : TlR L tls all.length
/-- What a call on a shelf leaves. -/
structure ShX (w w' : World) (B N M lb sb hb : Nat) (L : Lg) (all : List Ent) (tls : List Fo) : Prop where
  ex : ∃ ρ G av tv, Sh w' ρ B N M lb sb hb G L all tls av tv
  bel : Below B w w'
theorem Sh.below {w w' : World} {ρ : Nat → Nat} {B N M lb sb hb : Nat} {G : Gh} {L : Lg} {all : List Ent} {tls : List Fo} {av tv : Value} (h : Sh w ρ B N M lb sb hb G L all tls av tv) (hb' : Below w.heap.size w w') : Sh w' ρ B N M lb sb hb G L all tls av tv :=
  ⟨h.log.below hb', h.mem.below hb', h.inv, h.left, h.bud, h.tl⟩
theorem Sh.shx {w w' : World} {ρ : Nat → Nat} {B N M lb sb hb : Nat} {G : Gh} {L : Lg} {all : List Ent} {tls : List Fo} {av tv : Value} (h : Sh w ρ B N M lb sb hb G L all tls av tv) (hB : B ≤ w.heap.size) (hb' : Below w.heap.size w w') : ShX w w' B N M lb sb hb L all tls :=
  ⟨⟨ρ, G, av, tv, h.below hb'⟩, ⟨hb'.os, hb'.tape, hb'.output, hb'.size, fun k hk => hb'.block k (by omega)⟩⟩
theorem Sh.mono {w : World} {ρ : Nat → Nat} {B N M M' lb sb hb : Nat} {G : Gh} {L : Lg} {all : List Ent} {tls : List Fo} {av tv : Value} (h : Sh w ρ B N M lb sb hb G L all tls av tv) (hM : M ≤ M') : Sh w ρ B N M' lb sb hb G L all tls av tv :=
  ⟨h.log, h.mem, h.inv, h.left, by have := h.bud; omega, h.tl⟩
theorem shC_app (lb hb : Nat) (L : Lg) (s : ByteArray) (av tv : Value) : shC lb hb (L.app s) av tv = shC lb hb L av tv := by
  unfold shC Lg.app Lg.more
  by_cases hf : L.memory ≤ L.mem.length
  · rw [if_pos hf]
    simp [Lg.roll, layTo_len]
  · rw [if_neg hf]
end Go.Proofs.YtkncboinfcnklaaGreatDoor.Kp

namespace Go.Proofs.YtkncboinfcnklaaGreatDoor.Kp
open Go.RowKit Go.Deep Go.Shelf Go.Proofs.YtkncboinfcnklaaGreatDoor.Mth

theorem shC_fine (lb hb : Nat) (L : Lg) (av tv : Value) : (shC lb hb L av tv).setIfInBounds 13 (.bool true) = shC lb hb L av tv := by simp [shC]
theorem shC_all (lb hb : Nat) (L : Lg) (av av' tv : Value) : (shC lb hb L av tv).setIfInBounds 8 av' = shC lb hb L av' tv := by simp [shC]
theorem shC_tls (lb hb : Nat) (L : Lg) (av tv tv' : Value) : (shC lb hb L av tv).setIfInBounds 12 tv' = shC lb hb L av tv' := by simp [shC]
theorem shC_clock (lb hb : Nat) (L : Lg) (av tv : Value) (n : Nat) : (shC lb hb L av tv).setIfInBounds 9 (.int .i64 ((L.clock + n : Nat) : Int)) = shC lb hb { L with clock := L.clock + n } av tv := by simp [shC]
/-- 'fine' is set, as it was. -/
theorem Sh.fine {w : World} {ρ : Nat → Nat} {B N M lb sb hb : Nat} {G : Gh} {L : Lg} {all : List Ent} {tls : List Fo} {av tv : Value} (h : Sh w ρ B N M lb sb hb G L all tls av tv) (hB : B ≤ w.heap.size) : ShX w (w.setCell ⟨sb, 13, none⟩ (.bool true)) B N M lb sb hb L all tls := by
  obtain ⟨a1, a2, a3⟩ := ShM.set h.log h.mem 13 (.bool true)
  rw [shC_fine] at a2
  exact ⟨⟨ρ, G, av, tv, a1, a2, h.inv, h.left, h.bud, h.tl⟩, a3 hB⟩
theorem Sh.cell {w : World} {ρ : Nat → Nat} {B N M lb sb hb : Nat} {G : Gh} {L : Lg} {all : List Ent} {tls : List Fo} {av tv : Value} (h : Sh w ρ B N M lb sb hb G L all tls av tv) {j : Nat} {u : Value} (hj : (shC lb hb L av tv)[j]? = some u) : w.cell? ⟨sb, j, none⟩ = some u ∧ w.frozen? ⟨sb, j, none⟩ = false := cell_of h.mem.blk hj
theorem ShX.pre {w w1 w2 : World} {B N M lb sb hb : Nat} {L : Lg} {all : List Ent} {tls : List Fo} (hb' : Below B w w1) (h : ShX w1 w2 B N M lb sb hb L all tls) : ShX w w2 B N M lb sb hb L all tls := ⟨h.ex, hb'.trans h.bel⟩
theorem ShX.mono {w w1 : World} {B N M M' lb sb hb : Nat} {L : Lg} {all : List Ent} {tls : List Fo} (h : ShX w w1 B N M lb sb hb L all tls) (hM : M ≤ M') : ShX w w1 B N M' lb sb hb L all tls := by
  obtain ⟨⟨ρ, G, av, tv, h1⟩, h2⟩ := h
  exact ⟨⟨ρ, G, av, tv, h1.mono hM⟩, h2⟩
theorem belowB {B : Nat} {w w' : World} (h : Below w.heap.size w w') (hB : B ≤ w.heap.size) : Below B w w' := ⟨h.os, h.tape, h.output, h.size, fun k hk => h.block k (by omega)⟩

set_option maxRecDepth 100000 in
set_option maxHeartbeats 1000000 in
theorem lays_long {w : World} {ρ : Nat → Nat} {B N M lb sb hb : Nat} {G : Gh} {L : Lg} {all : List Ent} {tls : List Fo} {av tv : Value} (h : Sh w ρ B N M lb sb hb G L all tls av tv) (hB : B ≤ w.heap.size) (s : ByteArray) (hs : 60 < s.size) (hs2 : s.size ≤ 1048576) :
    Calls Tryz.prog 82 #[ptrV sb, .string s] w fun e w' => e = .returned (.tuple #[]) ∧ ShX w w' B N M lb sb hb L all tls := by
  have CA := hide (append_long h.log s (by rw [h.left]; omega) hs (by omega))
  have HF := hide (h.fine hB)
  obtain ⟨c0, _⟩ := h.cell (j := 0) (u := ptrV lb) rfl
  obtain ⟨c13, f13⟩ := h.cell (j := 13) (u := .bool true) rfl
  have h60 : (60 : Int) < (s.size : Int) := by omega
  clear h hs
  go_enter Tryz.func82, Tryz.ntmps82
  go_wp2_with (first | (go_at_call 26; refine CA.out.mono ?_; rintro e w' ⟨rfl, hw'⟩; rw [hw']; clear hw' w'))
  go_end0
  exact ⟨rfl, HF.out⟩

set_option maxRecDepth 100000 in
set_option maxHeartbeats 1000000 in
theorem lays_busy {w : World} {ρ : Nat → Nat} {B N M lb sb hb : Nat} {G : Gh} {L : Lg} {all : List Ent} {tls : List Fo} {av tv : Value} (h : Sh w ρ B N M lb sb hb G L all tls av tv) (hB : B ≤ w.heap.size) (s : ByteArray) (hs : s.size ≤ 60) (hf : L.memory ≤ L.mem.length) (hb0 : L.fan + L.back ≤ (L.lev 0).length) (hM : M ≤ 400000) :
    Calls Tryz.prog 82 #[ptrV sb, .string s] w fun e w' => e = .returned (.tuple #[]) ∧ ShX w w' B N M lb sb hb L all tls := by
  have hcf := h.inv.cfg
  have hlv := h.inv.lev 0 (by omega)
  have hbd := h.bud
  have CA := hide (append_busy h.log s (by rw [h.left]; omega) hs hf hb0 hcf.2.1.2 hcf.2.2.1 (by omega))
  have hpd : 0 < pends L.wks := by
    have hc := h.inv.due 0 (by omega) (by omega)
    by_cases h0 : pends L.wks = 0
    · have := h.inv.rest h0 0 (by omega)
      omega
    · omega
  have hpd5 := h.inv.pendsLe
  have CP : Hid (∀ W, Below w.heap.size w W → W.cell? ⟨sb, 0, none⟩ = some (ptrV lb) ∧ Calls Tryz.prog 24 #[ptrV lb] W fun e w' => e = .returned (.int .i64 (pends L.wks : Int)) ∧ Below W.heap.size W w') := fun W hb' => ⟨((h.below hb').cell (j := 0) (u := ptrV lb) rfl).1, pend_any (h.below hb').log.x⟩
  have HF : Hid (∀ W, Below w.heap.size w W → W.cell? ⟨sb, 13, none⟩ = some (.bool true) ∧ W.frozen? ⟨sb, 13, none⟩ = false ∧ ShX w (W.setCell ⟨sb, 13, none⟩ (.bool true)) B N M lb sb hb L all tls) := fun W hb' => ⟨((h.below hb').cell (j := 13) (u := .bool true) rfl).1, ((h.below hb').cell (j := 13) (u := .bool true) rfl).2, ((h.below hb').fine (Nat.le_trans hB hb'.size)).pre (belowB hb' hB)⟩
  obtain ⟨c0, _⟩ := h.cell (j := 0) (u := ptrV lb) rfl
  have hpI : (0 : Int) < (pends L.wks : Int) := by omega
  clear h hf hb0 hcf hlv hbd
  generalize pends L.wks = pn at *
  go_enter Tryz.func82, Tryz.ntmps82
  go_wp2_with (first
    | (go_at_call 26; refine CA.out.mono ?_; rintro e w2 ⟨rfl, hb2⟩; have HB2 := hide hb2; obtain ⟨d0, hcp⟩ := CP.out w2 hb2; have HCP := hide hcp; clear hb2 hcp)
    | (go_at_call 24; refine HCP.out.mono ?_; rintro e w3 ⟨rfl, hb3⟩; obtain ⟨d13, f13, hx⟩ := HF.out w3 (HB2.out.trans (hb3.mono HB2.out.size)); have HX := hide hx; clear hb3 hx))
  go_end0
  exact ⟨rfl, HX.out⟩

set_option maxRecDepth 100000 in
set_option maxHeartbeats 2000000 in
theorem lays_ok {w : World} {ρ : Nat → Nat} {B N M lb sb hb : Nat} {G : Gh} {L : Lg} {all : List Ent} {tls : List Fo} {av tv : Value} (h : Sh w ρ B N M lb sb hb G L all tls av tv) (hB : B ≤ w.heap.size) (ht : TabB B w) (s : ByteArray) (hs : s.size ≤ 60) (hn : ¬ (L.memory ≤ L.mem.length ∧ L.fan + L.back ≤ (L.lev 0).length)) (hM : M ≤ 400000) :
    Calls Tryz.prog 82 #[ptrV sb, .string s] w fun e w' => e = .returned (.tuple #[]) ∧ ShX w w' B N (M + 1) lb sb hb (L.app s) (all ++ [⟨(all.length : Int), (L.clock : Int), s⟩]) tls := by
  obtain ⟨i0, hi0, hz0, hz1, hz2⟩ := info_parts Tryz.info66
  have hcf := h.inv.cfg
  have hbd := h.bud
  have hml := h.inv.ml
  have hcnt := h.inv.cnt
  have CA0 := append_ok h.log hB ht s (by rw [h.left]; omega) (by rw [h.left]; omega) (by rw [h.left]; omega) (by rw [h.left]; omega) hs hn hcf.2.1.2 hcf.2.2.1 (fun i hi => by have := h.inv.lev i hi; omega) (by omega) (by omega) (by omega)
  have HS2 : Hid (∀ w2, Apd w w2 ρ B N lb G (L.app s) (G.dt ++ recB 0 s) (decL (decL G.left)) → ∃ ρ2 G2, LogAt w2 ρ2 B N lb G2 (L.app s) ∧ ShM w2 ρ2 B sb (shC lb hb L av tv) all tls av tv ∧ Below B w w2 ∧ G2.left = -1 ∧ G2.dt.size ≤ 64 * (M + 1)) := by
    intro w2 ha
    obtain ⟨⟨ρ2, G2, a1, a2, a3, a4, a5⟩⟩ := ha
    refine ⟨ρ2, G2, a1, h.mem.keep a2, below_lstp (Below.refl B w) a2 h.log.x.lt hB, ?_, ?_⟩
    · rw [a5, h.left]; decide
    · rw [a4, ByteArray.size_append, recB_size]; omega
  have HI := hide (h.inv.app hs)
  have HTL : Hid (TlR (L.app s) tls (all.length + 1)) := h.tl.mono (by omega) (by unfold Lg.app Lg.more; split <;> rfl) (by unfold Lg.app Lg.more; split <;> rfl) (by unfold Lg.app Lg.more; split <;> rfl)
  rw [hcnt] at CA0
  have CA := hide CA0
  obtain ⟨c0, _⟩ := h.cell (j := 0) (u := ptrV lb) rfl
  obtain ⟨va, vc, hva, hvc, hvm⟩ := own_slice h.mem.row
  subst hva
  unfold maxLen at hvm
  have hclk := h.inv.clk
  have h60 : ¬ (60 : Int) < (s.size : Int) := by omega
  clear h CA0 hcf hml hcnt hn ht
  have HSC : Hid (∀ av tv, shC lb hb (L.app s) av tv = shC lb hb L av tv) := fun av tv => shC_app lb hb L s av tv
  generalize hLA : L.app s = LA at *
  have HLA := hide hLA
  clear hLA
  generalize hal : all.length = n at *
  have HAL := hide hal
  clear hal
  go_enter Tryz.func82, Tryz.ntmps82
  go_upto_region 2 with (first | (go_at_call 26; refine CA.out.mono ?_; rintro e w2 ⟨rfl, ha⟩; obtain ⟨ρ2, G2, hl2, hm2, hB2, hlf2, hdt2⟩ := HS2.out w2 ha; clear ha))
  have hBw2 : B ≤ w2.heap.size := Nat.le_trans hB hB2.size
  obtain ⟨c8, f8⟩ := cell_of (j := 8) (u := .slice va n vc) hm2.blk rfl
  obtain ⟨c9, _⟩ := cell_of (j := 9) (u := .int .i64 (L.clock : Int)) hm2.blk rfl
  have c8' := cellA (o := Obj.cells #[.int .i64 (n : Int), .int .i64 (L.clock : Int), .string s] 66) c8
  have hrow2 := hm2.row
  rw [HAL.out] at hrow2
  have HROW := hide hrow2
  have HL2 := hide hl2
  have HM2 := hide hm2
  have HB2 := hide hB2
  clear hl2 hm2 hB2 hrow2 HS2 CA
  go_upto_region 3 with fail
  go_region_law (refine step_own_at _ rfl _ _ 57 rfl B 66 i0 (.agg #[.int .i64 0, .int .i64 0, .string ByteArray.empty]) 3 32 Tryz.underlying57 hi0 hz0 hz1 hz2 rfl (by decide) _ _ _ rfl (by exact HROW.out.alloc _) ⟨w2.heap.size, 0, none⟩ 1 1 [.int .i64 (n : Int), .int .i64 (L.clock : Int), .string s] rfl rfl (by exact cell_three_new w2.drew _ _ _ _) (by intro u hu; simp at hu; rcases hu with rfl | rfl | rfl <;> rfl) (by unfold maxLen; omega) (by omega) (by simp; omega) ?_; intro v5 W5 o5 g5 n5; obtain ⟨a5, c5, rfl, hc5, hm5⟩ := own_slice o5; have g6 : (w2.alloc (Obj.cells #[.int .i64 (n : Int), .int .i64 (L.clock : Int), .string s] 66)).grownBy W5 (Value.slice va n vc).ownBlock := ⟨g5.os, g5.tape, g5.output, g5.size, g5.block⟩; have KM := hide (ShM.more (e := ⟨(n : Int), (L.clock : Int), s⟩) HL2.out HM2.out hBw2 (by rw [HAL.out]; exact o5) g6 n5); obtain ⟨fb, ff⟩ := cell_of (j := 8) (u := .slice va n vc) KM.out.1 rfl; clear o5 g5 g6 n5)
  all_goals (
    obtain ⟨_, k2, k3, k4⟩ := KM.out
    rw [shC_all] at k3
    obtain ⟨d8, _⟩ := cell_of (j := 8) (u := .slice a5 (n + 1) c5) k3.blk rfl
    have FIN : Hid (ShX w (W5.setCell ⟨sb, 8, none⟩ (.slice a5 (n + 1) c5)) B N (M + 1) lb sb hb LA (all ++ [⟨(n : Int), (L.clock : Int), s⟩]) tls) := ⟨⟨ρ2, G2, _, tv, k2, by rw [HSC.out]; exact k3, HI.out, hlf2, ⟨hdt2, by rw [List.length_append, HAL.out]; simp; omega, by omega⟩, by rw [List.length_append, HAL.out]; exact HTL.out⟩, HB2.out.trans k4⟩
    clear KM k2 k3 k4 c8 c8' c9 f8 fb ff
    generalize W5.setCell ⟨sb, 8, none⟩ (.slice a5 (n + 1) c5) = W6 at *
    have hnn : ((n + 1 : Nat) : Int) - 1 = (n : Int) := by omega
    go_wp2_with fail
    go_end0
    exact ⟨rfl, FIN.out⟩)
end Go.Proofs.YtkncboinfcnklaaGreatDoor.Kp

namespace Go.Proofs.YtkncboinfcnklaaGreatDoor.Kp
open Go.RowKit Go.Deep Go.Shelf Go.Proofs.YtkncboinfcnklaaGreatDoor.Mth

set_option maxRecDepth 100000 in
set_option maxHeartbeats 1000000 in
theorem passes_no {w : World} {ρ : Nat → Nat} {B N M lb sb hb : Nat} {G : Gh} {L : Lg} {all : List Ent} {tls : List Fo} {av tv : Value} (h : Sh w ρ B N M lb sb hb G L all tls av tv) (hB : B ≤ w.heap.size) (n : Nat) (h1 : 1 ≤ n) (h2 : n ≤ 1000) (hc : canTick L.clock (n : Int) = false) :
    Calls Tryz.prog 83 #[ptrV sb, .int .i64 (n : Int)] w fun e w' => e = .returned (.tuple #[]) ∧ ShX w w' B N M lb sb hb L all tls := by
  have hclk := h.inv.clk
  have CT := hide (tick_no h.log (n : Int) hclk hc)
  have HF := hide (h.fine hB)
  obtain ⟨c0, _⟩ := h.cell (j := 0) (u := ptrV lb) rfl
  obtain ⟨c9, _⟩ := h.cell (j := 9) (u := .int .i64 (L.clock : Int)) rfl
  obtain ⟨c13, f13⟩ := h.cell (j := 13) (u := .bool true) rfl
  have hgt : (1000000000000 : Int) - (n : Int) < (L.clock : Int) := by
    unfold canTick at hc
    simp at hc
    omega
  clear h hc
  go_enter Tryz.func83, Tryz.ntmps83
  go_wp2_with (first | (go_at_call 126; refine CT.out.mono ?_; rintro e w' ⟨rfl, hw'⟩; rw [hw']; clear hw' w'))
  go_end0
  exact ⟨rfl, HF.out⟩

set_option maxRecDepth 100000 in
set_option maxHeartbeats 1000000 in
theorem passes_ok {w : World} {ρ : Nat → Nat} {B N M lb sb hb : Nat} {G : Gh} {L : Lg} {all : List Ent} {tls : List Fo} {av tv : Value} (h : Sh w ρ B N M lb sb hb G L all tls av tv) (hB : B ≤ w.heap.size) (ht : Tab10B B w) (n : Nat) (h1 : 1 ≤ n) (h2 : n ≤ 1000) (hc : canTick L.clock (n : Int) = true) (hM : M ≤ 400000) :
    Calls Tryz.prog 83 #[ptrV sb, .int .i64 (n : Int)] w fun e w' => e = .returned (.tuple #[]) ∧ ShX w w' B N (M + 1) lb sb hb { L with clock := L.clock + n } all tls := by
  have hclk := h.inv.clk
  have hbd := h.bud
  have hsum : L.clock + n ≤ 1000000000000 := by
    unfold canTick at hc
    simp at hc
    omega
  have CT := hide (tick_ok h.log hB ht.now (by rw [h.left]; omega) (by rw [h.left]; omega) (by rw [h.left]; omega) (by rw [h.left]; omega) n hclk hc (by omega))
  have hit := itoaB_size (n : Int) (by omega) (by omega)
  have HS2 : Hid (∀ w2, Apd w w2 ρ B N lb G { L with clock := L.clock + n } (G.dt ++ recB 1 (itoaB n)) (decL (decL G.left)) → w2.cell? ⟨sb, 9, none⟩ = some (.int .i64 (L.clock : Int)) ∧ w2.frozen? ⟨sb, 9, none⟩ = false ∧ ShX w (w2.setCell ⟨sb, 9, none⟩ (.int .i64 ((L.clock : Int) + (n : Int)))) B N (M + 1) lb sb hb { L with clock := L.clock + n } all tls) := by
    intro w2 ha
    obtain ⟨⟨ρ2, G2, a1, a2, a3, a4, a5⟩⟩ := ha
    have hm2 := h.mem.keep a2
    have hB2 := below_lstp (Below.refl B w) a2 h.log.x.lt hB
    obtain ⟨b1, b2, b3⟩ := ShM.set a1 hm2 9 (.int .i64 ((L.clock + n : Nat) : Int))
    rw [shC_clock] at b2
    rw [Int.natCast_add] at b1 b2 b3
    refine ⟨(cell_of (j := 9) hm2.blk rfl).1, (cell_of (j := 9) (u := .int .i64 (L.clock : Int)) hm2.blk rfl).2, ⟨ρ2, G2, av, tv, b1, b2, h.inv.tick hsum, ?_, ⟨?_, by omega, by omega⟩, h.tl.mono (Nat.le_refl _) rfl rfl rfl⟩, hB2.trans (b3 (Nat.le_trans hB hB2.size))⟩
    · rw [a5, h.left]; decide
    · rw [a4, ByteArray.size_append, recB_size]; omega
  obtain ⟨c0, _⟩ := h.cell (j := 0) (u := ptrV lb) rfl
  clear h hc ht
  generalize hLL : ({ L with clock := L.clock + n } : Lg) = L1 at *
  clear hLL
  go_enter Tryz.func83, Tryz.ntmps83
  go_wp2_with (first | (go_at_call 126; refine CT.out.mono ?_; rintro e w2 ⟨rfl, ha⟩; obtain ⟨d9, f9, hx⟩ := HS2.out w2 ha; have HX := hide hx; clear ha hx))
  go_end0
  exact ⟨rfl, HX.out⟩
end Go.Proofs.YtkncboinfcnklaaGreatDoor.Kp
