import Derived.Test.YtkncboinfcnklaaGreatDoorKU
namespace Go.Proofs.YtkncboinfcnklaaGreatDoor.Kp
open Go.RowKit Go.Deep Go.Shelf Go.Proofs.YtkncboinfcnklaaGreatDoor.Mth

theorem PI.ex {f : Ent → Bool} {all : List Ent} {p b : Nat} : ∀ (n t : Nat), all.length - t = n → PI f all p b t → ∃ t', PI f all p b t' ∧ (t' = all.length ∨ tkn f all p t' = b)
  | 0, t, hn, h => ⟨t, h, Or.inl (by have := h.le; omega)⟩
  | n + 1, t, hn, h => by
    by_cases hk : tkn f all p t = b
    · exact ⟨t, h, Or.inr hk⟩
    · exact PI.ex n (t + 1) (by omega) (h.next (by omega) (by rcases h.or with q | ⟨_, _, q, _⟩ <;> omega))
theorem tkn_add {f : Ent → Bool} {all : List Ent} {p t : Nat} (h : p ≤ t) : tkn f all p all.length = tkn f all p t + tkn f all t all.length := by
  unfold tkn
  rw [List.take_length, split_at h, List.filter_append, List.length_append]
theorem nxt_step {all : List Ent} {c : Nat} (ho : AllOk all c) (y : ByteArray) {p b : Nat} (hp : p ≤ all.length) (hb : 1 ≤ b) : nxt all y p b ≤ all.length ∧ (nxt all y p b = all.length ∨ tkn (hsW y) all p all.length = b + tkn (hsW y) all (nxt all y p b) all.length) := by
  obtain ⟨t, h1, h2⟩ := PI.ex (f := hsW y) (all := all) (p := p) (b := b) _ p rfl (PI.start hp hb)
  have h3 := (PI.done ho h1 h2).1
  have h4 : nxt all y p b = t := h3
  rw [h4]
  refine ⟨h1.le.2, ?_⟩
  rcases h2 with q | q
  · exact Or.inl q
  · right
    rw [tkn_add h1.le.1, q]
theorem tkn_len (f : Ent → Bool) (all : List Ent) (p t : Nat) : tkn f all p t ≤ all.length := by
  unfold tkn
  refine Nat.le_trans (List.length_filter_le _ _) ?_
  simp
  omega
/-- A shelf that polls, in its rounds. -/
def GI (w wr : World) (B M lb sb hb T b : Nat) (all : List Ent) (q i left k : Nat) : Prop := ∃ L tls N, N ≤ q + k ∧ ShX w wr B N M lb sb hb L all tls ∧ L.batch = b ∧ tls.length = T ∧ ((tls.getD i fo0).there = true → (tls.getD i fo0).next ≤ all.length ∧ ((tls.getD i fo0).next = all.length ∨ tkn (hsW (tls.getD i fo0).word) all (tls.getD i fo0).next all.length + k * b = left))
theorem polls_gap {w wr : World} {B M lb sb hb T b : Nat} {all : List Ent} {q i left k : Nat} (hB : B ≤ w.heap.size) (h : GI w wr B M lb sb hb T b all q i left k) (hi : i < T) (hM : M ≤ 400000) (hq : q + k ≤ 1099511627776) :
    Calls Tryz.prog 22 #[ptrV sb, .int .i64 (i : Int)] wr fun e w' => e = .returned (.tuple #[]) ∧ GI w w' B M lb sb hb T b all q i left (k + 1) := by
  obtain ⟨L, tls, N, hN, ⟨⟨ρ, G, av, tv, hs⟩, hbel⟩, hbt, hT, hth⟩ := h
  have hBr := Nat.le_trans hB hbel.size
  subst hT
  cases ht : (tls.getD i fo0).there with
  | false =>
    refine (polls_no hs hBr hi ht hM).mono ?_
    rintro e w' ⟨rfl, hx⟩
    exact ⟨rfl, L, tls, N, by omega, hx.pre hbel, hbt, rfl, fun c => by rw [ht] at c; cases c⟩
  | true =>
    refine (polls_yes hs hBr hi ht hM (by omega)).mono ?_
    rintro e w' ⟨rfl, hx⟩
    obtain ⟨h1, h2⟩ := hth ht
    have hb1 := hs.inv.cfg.2.2.2.2.1.1
    obtain ⟨h3, h4⟩ := nxt_step hs.inv.ok (tls.getD i fo0).word h1 hb1
    refine ⟨rfl, _, _, N + 1, by omega, hx.pre hbel, hbt, by simp, fun _ => ?_⟩
    have e : ∀ z : Fo, (tls.set i z).getD i fo0 = z := fun z => by simp [List.getD, hi]
    rw [e]
    refine ⟨h3, ?_⟩
    show nxt all (tls.getD i fo0).word (tls.getD i fo0).next L.batch = all.length ∨ _
    rcases h4 with h4 | h4
    · exact Or.inl h4
    · rcases h2 with h2 | h2
      · left
        rw [h2] at h4
        rw [tkn_start] at h4
        omega
      · right
        show tkn (hsW (tls.getD i fo0).word) all (nxt all (tls.getD i fo0).word (tls.getD i fo0).next L.batch) all.length + (k + 1) * b = left
        rw [Nat.add_mul]
        omega
theorem GI.done {w wr : World} {B M lb sb hb T b : Nat} {all : List Ent} {q i left k : Nat} (h : GI w wr B M lb sb hb T b all q i left k) (hb1 : 1 ≤ b) (hk : left / b < k) : ∃ L tls N, N ≤ q + k ∧ ShX w wr B N M lb sb hb L all tls ∧ L.batch = b ∧ tls.length = T ∧ ((tls.getD i fo0).there = true → (tls.getD i fo0).next = all.length) := by
  obtain ⟨L, tls, N, hN, hx, hbt, hT, hth⟩ := h
  refine ⟨L, tls, N, hN, hx, hbt, hT, fun c => ?_⟩
  rcases (hth c).2 with q | q
  · exact q
  · exfalso
    have h1 : left < k * b := by
      have := Nat.lt_mul_div_succ left (show 0 < b by omega)
      have h2 : b * (left / b + 1) ≤ b * k := Nat.mul_le_mul_left b hk
      rw [Nat.mul_comm k b]
      omega
    omega
end Go.Proofs.YtkncboinfcnklaaGreatDoor.Kp

namespace Go.Proofs.YtkncboinfcnklaaGreatDoor.Kp
open Go.RowKit Go.Deep Go.Shelf Go.Proofs.YtkncboinfcnklaaGreatDoor.Mth

set_option maxRecDepth 100000 in
set_option maxHeartbeats 8000000 in
theorem lawG_any (w : World) (ht : TabB w.heap.size w) (ht' : Tab10B w.heap.size w) (c0 c1 c2 c3 c4 c5 : Int) (h0 : I64 c0) (h1 : I64 c1) (h2 : I64 c2) (h3 : I64 c3) (h4 : I64 c4) (h5 : I64 c5) {v : Value} {l : List Mv} (hv : RdV w.heap.size w v l) (hok : ∀ m ∈ l, OkM m) (hl : l.length ≤ 210000) :
    Calls Tryz.prog 10 #[caV c0 c1 c2 c3 c4 c5, v] w fun e w' => e = .returned (.bool true) ∧ Below w.heap.size w w' := by
  have hb1 := below_allocG w (caO c0 c1 c2 c3 c4 c5)
  have hk1 := new_blk w #[.int .i64 c0, .int .i64 c1, .int .i64 c2, .int .i64 c3, .int .i64 c4, .int .i64 c5] 49
  obtain ⟨w1, hw1⟩ : ∃ w1, w1 = w.alloc (caO c0 c1 c2 c3 c4 c5) := ⟨_, rfl⟩
  rw [← hw1] at hb1 hk1
  obtain ⟨nb, hnb⟩ : ∃ nb, nb = w.heap.size := ⟨_, rfl⟩
  rw [← hnb] at hk1
  have CP := hide (played_any w1 w.heap.size hb1.size (ht.next hb1) (ht'.next hb1) c0 c1 c2 c3 c4 c5 h0 h1 h2 h3 h4 h5 (hv.below hb1) hok hl)
  obtain ⟨a0, _⟩ := cell_of (j := 0) (u := .int .i64 c0) hk1 rfl
  obtain ⟨a1, _⟩ := cell_of (j := 1) (u := .int .i64 c1) hk1 rfl
  obtain ⟨a2, _⟩ := cell_of (j := 2) (u := .int .i64 c2) hk1 rfl
  obtain ⟨a3, _⟩ := cell_of (j := 3) (u := .int .i64 c3) hk1 rfl
  obtain ⟨a4, _⟩ := cell_of (j := 4) (u := .int .i64 c4) hk1 rfl
  obtain ⟨a5, _⟩ := cell_of (j := 5) (u := .int .i64 c5) hk1 rfl
  have HW1 := hide hw1
  have HB1 := hide hb1
  have HNB := hide hnb
  clear hb1 hk1 hw1 ht ht' hv hok h0 h1 h2 h3 h4 h5
  go_enter Tryz.func10, Tryz.ntmps10
  go_upto_region 1 with fail
  rw [← HW1.out, ← HNB.out]
  clear hnb
  go_upto_region 4 with (first
    | (go_at_call 19; refine CP.out.mono ?_; rintro e w2 ⟨sb, rfl, hp2⟩; have HP2 := hide hp2; clear hp2))
  obtain ⟨lb, hb, L2, all, tls2, N2, M, hN2, hM2, hx2⟩ := HP2.out
  have hM4 : M ≤ 210000 := by omega
  have hN4 : N2 ≤ 210000 := by omega
  obtain ⟨T, hT2⟩ : ∃ T, T = tls2.length := ⟨_, rfl⟩
  obtain ⟨b, hbt2⟩ : ∃ b, b = L2.batch := ⟨_, rfl⟩
  have hbd : all.length ≤ M ∧ T ≤ M ∧ 1 ≤ b ∧ b ≤ 8 := by
    obtain ⟨⟨ρ, G, av, tv, hs⟩, _⟩ := hx2
    have h1 := hs.bud
    have h2 := hs.inv.cfg.2.2.2.2.1
    omega
  have HX2 := hide hx2
  have HB1' : Hid (w.heap.size ≤ w1.heap.size) := HB1.out.size
  obtain ⟨BB, hBB⟩ : ∃ BB, BB = w.heap.size := ⟨_, rfl⟩
  rw [← hBB] at HX2 HB1'
  have HBB := hide hBB
  have HT2 := hide hT2
  have HBT2 := hide hbt2
  clear hx2 HP2 a0 a1 a2 a3 a4 a5 hT2 hbt2 hBB hN2 hM2 hl CP
  go_wp2_with fail
  go_loopw [6] (fun iv wr => ∃ i : Nat, i ≤ T ∧ iv = .int .i64 (i : Int) ∧ ∃ L tls N, N ≤ 210000 + i * 210001 ∧ ShX w1 wr BB N M lb sb hb L all tls ∧ L.batch = b ∧ tls.length = T) (fun iv _ => T - (intOf iv).toNat)
  case atStart => exact ⟨0, Nat.zero_le _, rfl, L2, tls2, N2, by omega, HX2.out, HBT2.out.symm, HT2.out.symm⟩
  case round =>
    obtain ⟨i, hiT, rfl, L, tls, N, hN, hx, hbt, hTl⟩ := hrel
    obtain ⟨⟨ρ, G, av, tv, hs⟩, hbel⟩ := hx
    obtain ⟨wo, rfl⟩ : ∃ wo, wo = wr := ⟨_, rfl⟩
    by_cases hlt : i < T
    · obtain ⟨g, c, rfl, hc, hm, q0, q1, q2, q3⟩ := hs.fol (i := i) (by omega)
      obtain ⟨va, vc, hva, hvc, hvm⟩ := own_slice hs.mem.row
      subst hva
      have hnum := hs.tl.num i (by omega)
      have hyw := wds_wd hnum.2.1
      have hpn := hnum.2.2
      have RD : Hid (∀ W, Below wo.heap.size wo W → W.cell? ⟨sb, 12, none⟩ = some (.slice (some ⟨g, 0, none⟩) T c) ∧ W.cell? ⟨sb, 8, none⟩ = some (.slice va all.length vc) ∧ W.cell? ⟨sb, 7, none⟩ = some (.int .i64 (b : Int)) ∧ W.cell? ⟨g, i * 4 + 1, none⟩ = some (.string (tls.getD i fo0).word) ∧ W.cell? ⟨g, i * 4 + 2, none⟩ = some (.int .i64 ((tls.getD i fo0).next : Int)) ∧ W.ownsRow BB 66 3 (.slice va all.length vc) all.length (all.flatMap eC)) := by
        intro W hW
        have h2 := hs.below hW
        have hgl := World.block_lt_of_cell? _ _ q1
        refine ⟨?_, (h2.cell (j := 8) rfl).1, ?_, (hW.cell (p := ⟨g, i * 4 + 1, none⟩) hgl).trans q1, (hW.cell (p := ⟨g, i * 4 + 2, none⟩) hgl).trans q2, h2.mem.row⟩
        · rw [← hTl]; exact (h2.cell (j := 12) rfl).1
        · rw [← hbt]; exact (h2.cell (j := 7) rfl).1
      have hbdx : ∀ e ∈ all, e.text.size ≤ 60 := fun e he => (hs.inv.ok.bd e he).2.2
      have HBD := hide hbdx
      have HG : Hid (∀ W left, Below wo.heap.size wo W → left = tkn (hsW (tls.getD i fo0).word) all (tls.getD i fo0).next all.length → GI w1 W BB M lb sb hb T b all (210000 + i * 210001) i left 0) := by
        intro W left hW hlf
        exact ⟨L, tls, N, by omega, (hs.shx (Nat.le_trans HB1'.out hbel.size) hW).pre hbel, hbt, hTl, fun _ => ⟨hpn, Or.inr (by rw [hlf]; omega)⟩⟩
      obtain ⟨r12, r8, r7, r1, r2, _⟩ := RD.out wo (Below.refl _ _)
      unfold maxLen at hvm hm
      have hTc : T ≤ c := by omega
      have hiI : (i : Int) < (T : Int) := by omega
      clear hs hbel hnum hbdx q0 q1 q2 q3 hc hTl hbt hN
      generalize (tls.getD i fo0).word = y at *
      generalize (tls.getD i fo0).next = p at *
      go_wp2_with fail
      go_loopw [7, 8] (fun lv jv wx => ∃ j : Nat, p ≤ j ∧ j ≤ all.length ∧ jv = .int .i64 (j : Int) ∧ lv = .int .i64 (tkn (hsW y) all p j : Int) ∧ Below wo.heap.size wo wx) (fun _ jv _ => all.length - (intOf jv).toNat)
      case atStart => exact ⟨p, Nat.le_refl _, hpn, rfl, by rw [tkn_start]; rfl, Below.refl _ _⟩
      case round =>
        obtain ⟨j, hpj, hjn, rfl, rfl, hbr2⟩ := hrel
        have HB2 := hide hbr2
        have hkl := tkn_len (hsW y) all p j
        clear r12 r8 r7 r1 r2
        obtain ⟨r12, r8, r7, r1, r2, ra⟩ := RD.out _ hbr2
        clear hbr2
        by_cases hjl : j < all.length
        · obtain ⟨gv, rfl⟩ := own_some ra (by omega)
          obtain ⟨x0, x1, x2⟩ := own_en ra rfl (k := j) hjl
          have hmem : all.getD j e0 ∈ all := by rw [← List.getElem_eq_getD (h := hjl)]; exact List.getElem_mem hjl
          have htx := HBD.out _ hmem
          have hnx := tkn_next (f := hsW y) hpj hjl
          generalize hE : all.getD j e0 = ee at *
          obtain ⟨es, et, ex⟩ := ee
          simp only at x0 x1 x2 htx
          have hjI : (j : Int) < (all.length : Int) := by omega
          have CH : Hid (∀ d os, Calls Tryz.prog 21 #[.string ex, .string y] (Sort.grow (redrawn wr d) os) fun e w'' => e = .returned (.bool (hsW y ⟨es, et, ex⟩)) ∧ ∃ p : Regrown, w'' = Sort.grow (redrawn wr p.d) p.os) := fun d os => Calls.regrown_of ((has_any ex y (by omega) (by omega) hyw.1 _).mono fun e w' q => ⟨q.1, by rw [q.2]; exact Below.refl _ _⟩)
          have r12' := cell_regrown r12
          have r8' := cell_regrown r8
          have r1' := cell_regrown r1
          have x2' := cell_regrown x2
          have HNX := hide hnx
          have hb4 : j < 1000000 := by omega
          clear hmem hE hnx x0 x1
          generalize hsW y ⟨es, et, ex⟩ = hbv at *
          go_upto_region 11 with fail
          refine wp_region_quiet_below (by kernel_rfl) (by kernel_rfl) ?_
          repeat (go_big_quiet_step (first | (go_at_call 21; exact CH.out _ _)))
          refine wpQuiet_nil ?_
          intro _ hw'
          obtain ⟨⟨dq, osq⟩, hw''⟩ := hw'
          subst hw''
          have HB3 := hide (HB2.out.trans ((below_regrown wr dq osq).mono HB2.out.size))
          clear r12 r8 r7 r1 r2 ra r12' r8' r1' x2 x2' CH HB2
          generalize Sort.grow (redrawn wr dq) osq = w4 at *
          cases hbv with
          | true =>
            go_wp2_with fail
            go_roundw
            case rel => exact ⟨j + 1, by omega, by omega, by go_num, by rw [HNX.out, if_pos rfl]; go_num, HB3.out⟩
            case measure => simp [intOf]; omega
          | false =>
            go_wp2_with fail
            go_roundw
            case rel => exact ⟨j + 1, by omega, by omega, by go_num, by rw [HNX.out, if_neg (by decide)]; rfl, HB3.out⟩
            case measure => simp [intOf]; omega
        · obtain rfl : j = all.length := by omega
          have hG0 := HG.out wr _ HB2.out rfl
          have HG0 := hide hG0
          clear r12 r7 r1 r2 ra hG0 HG RD HB2
          generalize tkn (hsW y) all p all.length = left at *
          go_wp2_with fail
          clear r8
          have CPG : Hid (∀ W k, k ≤ left / b → GI w1 W BB M lb sb hb T b all (210000 + i * 210001) i left k → Calls Tryz.prog 22 #[ptrV sb, .int .i64 (i : Int)] W fun e w' => e = .returned (.tuple #[]) ∧ GI w1 w' BB M lb sb hb T b all (210000 + i * 210001) i left (k + 1)) := by
            intro W k hk hg
            have h1 := Nat.div_le_self left b
            exact polls_gap HB1'.out hg hlt (by omega) (by omega)
          have hq8 : left / b ≤ 210000 := by have := Nat.div_le_self left b; omega
          have hdv : (left : Int).tdiv (b : Int) = ((left / b : Nat) : Int) := by rw [Int.ofNat_tdiv]
          have hb0 : ¬ ((b : Int) = 0) := by omega
          obtain ⟨dv, hdvn⟩ : ∃ dv, dv = left / b := ⟨_, rfl⟩
          rw [← hdvn] at hdv hq8 CPG
          have HDV := hide hdvn
          have hwr : IntKind.i64.wrap (dv : Int) = (dv : Int) := by rw [IntKind.wrap_i64]; omega
          clear hdvn
          go_loopw [10] (fun kv wx => ∃ k : Nat, k ≤ dv + 1 ∧ kv = .int .i64 (k : Int) ∧ GI w1 wx BB M lb sb hb T b all (210000 + i * 210001) i left k) (fun kv _ => dv + 1 - (intOf kv).toNat)
          case atStart => exact ⟨0, Nat.zero_le _, rfl, HG0.out⟩
          case round =>
            obtain ⟨k, hk, rfl, hg⟩ := hrel
            have r7 : wr.cell? ⟨sb, 7, none⟩ = some (.int .i64 (b : Int)) := by
              obtain ⟨L, tls, N, hN, ⟨⟨ρ, G, av, tv, hs⟩, hbel⟩, hbt, hT, hth⟩ := hg
              rw [← hbt]
              exact (hs.cell (j := 7) rfl).1
            by_cases hkd : k ≤ dv
            · have CPK := hide (CPG.out wr k hkd hg)
              have hkI : (k : Int) ≤ (dv : Int) := by omega
              clear hg
              go_wp2_with (first | (go_at_call 22; refine CPK.out.mono ?_; rintro e w5 ⟨rfl, hg5⟩; have HG5 := hide hg5; clear hg5))
              go_roundw
              case rel => exact ⟨k + 1, by omega, by go_num, HG5.out⟩
              case measure => simp [intOf]; omega
            · have hkI : (dv : Int) < (k : Int) := by omega
              obtain ⟨L, tls, N, hN, hx, hbt, hTl, hth⟩ := hg.done hbd.2.2.1 (by rw [← HDV.out]; omega)
              obtain ⟨⟨ρ, G, av, tv, hs⟩, hbel⟩ := hx
              obtain ⟨g2, c2, rfl, hc2, hm2, q0, q1, q2, q3⟩ := hs.fol (i := i) (by omega)
              obtain ⟨va2, vc2, hva2, hvc2, hvm2⟩ := own_slice hs.mem.row
              subst hva2
              have hkn : k = dv + 1 := by omega
              have HF : Hid (∀ W, Below wr.heap.size wr W → ∃ L tls N, N ≤ 210000 + (i + 1) * 210001 ∧ ShX w1 W BB N M lb sb hb L all tls ∧ L.batch = b ∧ tls.length = T) := fun W hW => ⟨L, tls, N, by omega, (hs.shx (Nat.le_trans HB1'.out hbel.size) hW).pre hbel, hbt, hTl⟩
              obtain ⟨r13, _⟩ := hs.cell (j := 13) (u := .bool true) rfl
              obtain ⟨r8, _⟩ := hs.cell (j := 8) (u := .slice va2 all.length vc2) rfl
              obtain ⟨r12, _⟩ := hs.cell (j := 12) (u := .slice (some ⟨g2, 0, none⟩) tls.length c2) rfl
              rw [hTl] at r12 hc2
              unfold maxLen at hm2 hvm2
              clear hs hbel hg q0 q1 hTl hbt hN
              go_upto_region 18 with fail
              have r13' := cell_regrown r13
              have r8' := cell_regrown r8
              have r12' := cell_regrown r12
              have q2' := cell_regrown q2
              have q3' := cell_regrown q3
              clear r13 r8 r12 q2 q3 r7
              generalize (tls.getD i fo0).next = pn at *
              cases hthv : (tls.getD i fo0).there with
              | false =>
                rw [hthv] at q3'
                refine wp_region_quiet_below (by kernel_rfl) (by kernel_rfl) ?_
                repeat (go_big_quiet_step (fail))
                refine wpQuiet_nil ?_
                intro _ hw'
                obtain ⟨⟨dq, osq⟩, hw''⟩ := hw'
                subst hw''
                have HF4 := hide (HF.out _ (below_regrown wr dq osq))
                clear r13' r8' r12' q2' q3'
                generalize Sort.grow (redrawn wr dq) osq = w4 at *
                go_wp2_with fail
                go_roundw
                case rel => exact ⟨i + 1, by omega, by go_num, HF4.out⟩
                case measure => simp [intOf]; omega
              | true =>
                rw [hthv] at q3'
                have hpn2 := hth hthv
                subst hpn2
                refine wp_region_quiet_below (by kernel_rfl) (by kernel_rfl) ?_
                repeat (go_big_quiet_step (fail))
                refine wpQuiet_nil ?_
                intro _ hw'
                obtain ⟨⟨dq, osq⟩, hw''⟩ := hw'
                subst hw''
                have HF4 := hide (HF.out _ (below_regrown wr dq osq))
                clear r13' r8' r12' q2' q3'
                generalize Sort.grow (redrawn wr dq) osq = w4 at *
                go_wp2_with fail
                go_roundw
                case rel => exact ⟨i + 1, by omega, by go_num, HF4.out⟩
                case measure => simp [intOf]; omega
    · obtain rfl : i = T := by omega
      have HBF := hide (HB1.out.trans (HBB.out ▸ hbel))
      obtain ⟨va, vc, hva, hvc, hvm⟩ := own_slice hs.mem.trow
      subst hva
      obtain ⟨r12, _⟩ := hs.cell (j := 12) (u := .slice va tls.length vc) rfl
      rw [hTl] at r12
      clear hs hbel
      go_wp2_with fail
      go_ret
      exact ⟨rfl, HBF.out⟩
end Go.Proofs.YtkncboinfcnklaaGreatDoor.Kp
