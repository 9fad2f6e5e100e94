import Derived.Test.YtkncboinfcnklaaGreatDoorKU
namespace Go.Proofs.YtkncboinfcnklaaGreatDoor.Kp
open Go.RowKit Go.Deep Go.Shelf Go.Proofs.YtkncboinfcnklaaGreatDoor.Mth

set_option maxRecDepth 100000 in
set_option maxHeartbeats 4000000 in
theorem lawF_any (w : World) (ht : TabB w.heap.size w) (ht' : Tab10B w.heap.size w) (c0 c1 c2 c3 c4 c5 lo hi : Int) (h0 : I64 c0) (h1 : I64 c1) (h2 : I64 c2) (h3 : I64 c3) (h4 : I64 c4) (h5 : I64 c5) {v : Value} {l : List Mv} (hv : RdV w.heap.size w v l) (hok : ∀ m ∈ l, OkM m) (hl : l.length ≤ 210000) :
    Calls Tryz.prog 9 #[caV c0 c1 c2 c3 c4 c5, v, .int .i64 lo, .int .i64 hi] w fun e w' => e = .returned (.bool true) ∧ Below w.heap.size w w' := by
  have hb1 := below_allocG w (caO c0 c1 c2 c3 c4 c5)
  have hk1 := new_blk w #[.int .i64 c0, .int .i64 c1, .int .i64 c2, .int .i64 c3, .int .i64 c4, .int .i64 c5] 49
  obtain ⟨w1, hw1⟩ : ∃ w1, w1 = w.alloc (caO c0 c1 c2 c3 c4 c5) := ⟨_, rfl⟩
  rw [← hw1] at hb1 hk1
  obtain ⟨nb, hnb⟩ : ∃ nb, nb = w.heap.size := ⟨_, rfl⟩
  rw [← hnb] at hk1
  have CP := hide (played_any w1 w.heap.size hb1.size (ht.next hb1) (ht'.next hb1) c0 c1 c2 c3 c4 c5 h0 h1 h2 h3 h4 h5 (hv.below hb1) hok hl)
  have CF : Hid (∀ W n sb lo hi, Pld w1 W w.heap.size n sb → n ≤ 210000 → Calls Tryz.prog 20 #[ptrV sb, .int .i64 lo, .int .i64 hi] W fun e w' => e = .returned (.bool true) ∧ Pld w1 w' w.heap.size n sb) := by
    intro W n sb lo hi hp hn
    have hbel := hp.bel
    have hB := Nat.le_trans hb1.size hbel.size
    obtain ⟨lb, hb, L, all, tls, N, M, a1, a2, ⟨ρ, G, av, tv, a3⟩, _⟩ := hp
    refine (found_any a3 hB (ht.next (hb1.trans hbel)) lo hi (by omega)).mono ?_
    rintro e w' ⟨rfl, hb'⟩
    exact ⟨rfl, lb, hb, L, all, tls, N, M, a1, a2, (a3.shx hB hb').pre hbel⟩
  obtain ⟨a0, _⟩ := cell_of (j := 0) (u := .int .i64 c0) hk1 rfl
  obtain ⟨a1, _⟩ := cell_of (j := 1) (u := .int .i64 c1) hk1 rfl
  obtain ⟨a2, _⟩ := cell_of (j := 2) (u := .int .i64 c2) hk1 rfl
  obtain ⟨a3, _⟩ := cell_of (j := 3) (u := .int .i64 c3) hk1 rfl
  obtain ⟨a4, _⟩ := cell_of (j := 4) (u := .int .i64 c4) hk1 rfl
  obtain ⟨a5, _⟩ := cell_of (j := 5) (u := .int .i64 c5) hk1 rfl
  have HW1 := hide hw1
  have HB1 := hide hb1
  have HNB := hide hnb
  clear hb1 hk1 hw1 ht ht' hv hok h0 h1 h2 h3 h4 h5
  go_enter Tryz.func9, Tryz.ntmps9
  go_upto_region 1 with fail
  rw [← HW1.out, ← HNB.out]
  clear hnb
  go_upto_region 4 with (first
    | (go_at_call 19; refine CP.out.mono ?_; rintro e w2 ⟨sb, rfl, hp2⟩; have HP2 := hide hp2; clear hp2))
  have CF1 := hide (CF.out w2 _ sb lo hi HP2.out hl)
  go_upto_region 5 with (first
    | (go_at_call 20; refine CF1.out.mono ?_; rintro e w3 ⟨rfl, hp3⟩; have HP3 := hide hp3; clear hp3))
  have CF2 := hide (CF.out w3 _ sb 0 1000000000000 HP3.out hl)
  go_wp2_with (first
    | (go_at_call 20; refine CF2.out.mono ?_; rintro e w4 ⟨rfl, hp4⟩; have HP4 := hide hp4; clear hp4))
  go_ret
  exact ⟨rfl, HB1.out.trans HP4.out.bel⟩
end Go.Proofs.YtkncboinfcnklaaGreatDoor.Kp
