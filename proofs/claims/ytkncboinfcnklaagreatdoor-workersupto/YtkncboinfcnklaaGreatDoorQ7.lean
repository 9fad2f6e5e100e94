import Derived.Test.YtkncboinfcnklaaGreatDoorQ6
import Derived.Lib.OwnBridge
import Derived.Lib.QuietBelow
namespace Go.Proofs.YtkncboinfcnklaaGreatDoor.WI
open Go.RowKit Go.Deep Mth
set_option maxHeartbeats 400000 in
theorem cmp_lt (x y:Int) (w:World) (h:x < y):Calls Tryz.prog 229 #[.int .i64 x, .int .i64 y] w fun e w'=>e=.returned (.int .i64 (-1))∧w'=w:=by
 go_enter Tryz.func229,Tryz.ntmps229
 go_wp2
 go_ret
 exact ⟨rfl,rfl⟩
set_option maxHeartbeats 400000 in
theorem cmp_gt (x y:Int) (w:World) (h:y < x):Calls Tryz.prog 229 #[.int .i64 x, .int .i64 y] w fun e w'=>e=.returned (.int .i64 1)∧w'=w:=by
 have h':¬ x < y:=by omega
 go_enter Tryz.func229,Tryz.ntmps229
 go_wp2
 go_ret
 exact ⟨rfl,rfl⟩
set_option maxHeartbeats 400000 in
theorem cmp_eq (x:Int) (w:World):Calls Tryz.prog 229 #[.int .i64 x, .int .i64 x] w fun e w'=>e=.returned (.int .i64 0)∧w'=w:=by
 have h':¬ x < x:=by omega
 go_enter Tryz.func229,Tryz.ntmps229
 go_wp2
 go_ret
 exact ⟨rfl,rfl⟩
def TreeP (w:World) (l:List Int) (e:Ending) (w':World):Prop:=∃ p,∃ T:BT Int,e=.returned (.pointer p)∧T.ptr=.pointer p∧InT eI w' T∧Below w.heap.size w w'∧lst T=l
theorem balance_at {L R:BT Int} {u v:Option Addr} (hu:L.ptr=.pointer u) (hv:R.ptr=.pointer v) (x:Int) {w:World} (hL:InT eI w L) (hR:InT eI w R) (hb:(lst L).length + 1 + (lst R).length≤4611686018427) :
  Calls Tryz.prog 232 #[.pointer u, .int .i64 x, .pointer v] w (TreeP w (lst L ++ x :: lst R)):=by
 have:=balance_any L R x w hL hR hb
 rw [hu,hv] at this
 refine this.mono ?_
 rintro e w' ⟨T,rfl,h1,h2,h3⟩
 obtain ⟨p,hp⟩:=ptr_pointer T
 exact ⟨p,T,by rw [hp],hp,h1,h2,h3⟩
def PutP (w:World) (l:List Int) (x:Int) (e:Ending) (w':World):Prop:=∃ p,∃ T:BT Int,e=.returned (.pointer p)∧T.ptr=.pointer p∧InT eI w' T∧Below w.heap.size w w'∧Put (fun a b:Int=>a < b) l x (lst T)
def WithSaid (x:Int) (T:BT Int):Prop:=∀ (u:Option Addr) (w:World),T.ptr=.pointer u→InT eI w T→(lst T).Pairwise (fun a b:Int=>a < b)→¬ x ∈ lst T→(lst T).length + 1≤4611686018427 →
 Calls Tryz.prog 164 #[.pointer u, .int .i64 x] w (PutP w (lst T) x)
set_option maxHeartbeats 400000 in
theorem with_nil (x:Int):WithSaid x .nil:=by
 intro u w hu _ _ _ _
 have hu':u=none:=by
  have:Value.pointer none=.pointer u:=hu
  injection this with h
  exact h.symm
 subst hu'
 clear hu
 go_enter Tryz.func164,Tryz.ntmps164
 go_wp2_with fail
 refine (join_at (L:=.nil) (R:=.nil) rfl rfl x trivial trivial (by simp [lst])).mono ?_
 rintro e w1 ⟨rfl,hT1,hB1⟩
 have HT1:=hide hT1
 have HB1:=hide hB1
 clear hT1 hB1
 go_wp2
 go_ret
 exact ⟨_, .node _ 0 x .nil .nil,rfl,rfl,HT1.out,HB1.out,put_nil x⟩
set_option maxHeartbeats 1000000 in
theorem with_left (x a:Int) (b:Nat) (l r:BT Int) (ih:WithSaid x l) (u:Option Addr) (w:World) (hu:(BT.node b 0 a l r).ptr=.pointer u) (h:InT eI w (.node b 0 a l r)) (hup:(lst (.node b 0 a l r)).Pairwise (fun a b:Int=>a < b)) (hx:¬ x ∈ lst (.node b 0 a l r)) (hb:(lst (.node b 0 a l r)).length + 1≤4611686018427) (hxa:x < a) :
  Calls Tryz.prog 164 #[.pointer u, .int .i64 x] w (PutP w (lst (.node b 0 a l r)) x):=by
 have hu':u=some ⟨b,0,none⟩:=by
  have:Value.pointer (some ⟨b,0,none⟩)=.pointer u:=hu
  injection this with h
  exact h.symm
 subst hu'
 have hblt:=inT_lt h
 obtain ⟨_,c0,c1,c2,c3,hl,hr⟩:=h
 obtain ⟨ul,hul⟩:=ptr_pointer l
 obtain ⟨ur,hur⟩:=ptr_pointer r
 rw [hul] at c2
 rw [hur] at c3
 have hlen:(lst (.node b 0 a l r)).length=(lst l).length + 1 + (lst r).length:=by simp [lst];omega
 rw [hlen] at hb
 have HUR:=hide hur
 have Hr:Hid (InT eI w r):=hr
 have IH:Hid (∀ n,Calls Tryz.prog 164 #[.pointer ul, .int .i64 x] (w.drewN n) (PutP (w.drewN n) (lst l) x)):=
  fun n=>ih ul _ hul (inT_drewN hl) (by have:=hup;rw [lst,List.pairwise_append] at this;exact this.1) (fun hm=>hx (by rw [lst];simp [hm])) (by omega)
 have HUP:=hide hup
 clear hu ih hul hur hl hr c1 hup hx hlen
 go_enter Tryz.func164,Tryz.ntmps164
 go_wp2_with (go_at_call 231;refine (less_any _ _ _).mono ?_;rintro e w' ⟨rfl,rfl⟩)
 go_region_held3 (fun w'=>w'.cell? ⟨b,0,none⟩=some (.int .i64 a)∧w'.cell? ⟨b,2,none⟩=some (.pointer ul)∧w'.cell? ⟨b,3,none⟩=some (.pointer ur)) (first | exact ⟨by assumption,by assumption,by assumption⟩ | go_keep)
  (first
   | (go_at_call 164;refine (IH.out 1).mono ?_;rintro e w1 ⟨p1,T1,rfl,hp1,hT1,hB1,hP1⟩;have k0:w1.cell? ⟨b,0,none⟩=some (.int .i64 a):=(hB1.cell (p:=⟨b,0,none⟩) hblt).trans c0;have k2:w1.cell? ⟨b,2,none⟩=some (.pointer ul):=(hB1.cell (p:=⟨b,2,none⟩) hblt).trans c2;have k3:w1.cell? ⟨b,3,none⟩=some (.pointer ur):=(hB1.cell (p:=⟨b,3,none⟩) hblt).trans c3;have hlt1:b < w1.heap.size:=World.block_lt_of_cell? _ _ k0;have hn1:=hP1.2.2;have HT1:=hide hT1;have HB1:=hide hB1;have HP1:=hide hP1;have Hp1:=hide hp1;clear hT1 hB1 hP1 hp1)
   | (go_at_call 232;refine (balance_at Hp1.out HUR.out a (by exact HT1.out) (by exact InT.below HB1.out (inT_drewN Hr.out)) (by omega)).mono ?_;rintro e w2 ⟨p2,T2,rfl,hp2,hT2,hB2,hL2⟩;have j0:w2.cell? ⟨b,0,none⟩=some (.int .i64 a):=(hB2.cell (p:=⟨b,0,none⟩) hlt1).trans k0;have j2:w2.cell? ⟨b,2,none⟩=some (.pointer ul):=(hB2.cell (p:=⟨b,2,none⟩) hlt1).trans k2;have j3:w2.cell? ⟨b,3,none⟩=some (.pointer ur):=(hB2.cell (p:=⟨b,3,none⟩) hlt1).trans k3;have HT2:=hide hT2;have HB2:=hide hB2;have HL2:=hide hL2;have Hp2:=hide hp2;clear hT2 hB2 hL2 hp2))
 go_wp2
 go_ret
 exact ⟨p2,T2,rfl,Hp2.out,HT2.out,(below_drew HB1.out).trans (HB2.out.mono (below_drew HB1.out).size),by rw [HL2.out,lst];exact put_left (by have:=HUP.out;rwa [lst] at this) sordInt hxa HP1.out⟩
end Go.Proofs.YtkncboinfcnklaaGreatDoor.WI

namespace Go.Proofs.YtkncboinfcnklaaGreatDoor.WI
open Go.RowKit Go.Deep Mth
set_option maxHeartbeats 1000000 in
theorem with_right (x a:Int) (b:Nat) (l r:BT Int) (ih:WithSaid x r) (u:Option Addr) (w:World) (hu:(BT.node b 0 a l r).ptr=.pointer u) (h:InT eI w (.node b 0 a l r)) (hup:(lst (.node b 0 a l r)).Pairwise (fun a b:Int=>a < b)) (hx:¬ x ∈ lst (.node b 0 a l r)) (hb:(lst (.node b 0 a l r)).length + 1≤4611686018427) (hxa:a < x) :
  Calls Tryz.prog 164 #[.pointer u, .int .i64 x] w (PutP w (lst (.node b 0 a l r)) x):=by
 have hu':u=some ⟨b,0,none⟩:=by
  have:Value.pointer (some ⟨b,0,none⟩)=.pointer u:=hu
  injection this with h
  exact h.symm
 subst hu'
 have hblt:=inT_lt h
 obtain ⟨_,c0,c1,c2,c3,hl,hr⟩:=h
 obtain ⟨ul,hul⟩:=ptr_pointer l
 obtain ⟨ur,hur⟩:=ptr_pointer r
 rw [hul] at c2
 rw [hur] at c3
 have hlen:(lst (.node b 0 a l r)).length=(lst l).length + 1 + (lst r).length:=by simp [lst];omega
 rw [hlen] at hb
 have HUL:=hide hul
 have Hl:Hid (InT eI w l):=hl
 have IH:Hid (∀ n,Calls Tryz.prog 164 #[.pointer ur, .int .i64 x] (w.drewN n) (PutP (w.drewN n) (lst r) x)):=
  fun n=>ih ur _ hur (inT_drewN hr) (by have:=hup;rw [lst,List.pairwise_append,List.pairwise_cons] at this;exact this.2.1.2) (fun hm=>hx (by rw [lst];simp [hm])) (by omega)
 have HUP:=hide hup
 have hnx:¬ x < a:=by omega
 clear hu ih hul hur hl hr c1 hup hx hlen
 go_enter Tryz.func164,Tryz.ntmps164
 go_wp2_with (go_at_call 231;refine (less_any _ _ _).mono ?_;rintro e w' ⟨rfl,rfl⟩)
 go_region_held3 (fun w'=>w'.cell? ⟨b,0,none⟩=some (.int .i64 a)∧w'.cell? ⟨b,2,none⟩=some (.pointer ul)∧w'.cell? ⟨b,3,none⟩=some (.pointer ur)) (first | exact ⟨by assumption,by assumption,by assumption⟩ | go_keep)
  (first
   | (go_at_call 164;refine (IH.out 1).mono ?_;rintro e w1 ⟨p1,T1,rfl,hp1,hT1,hB1,hP1⟩;have k0:w1.cell? ⟨b,0,none⟩=some (.int .i64 a):=(hB1.cell (p:=⟨b,0,none⟩) hblt).trans c0;have k2:w1.cell? ⟨b,2,none⟩=some (.pointer ul):=(hB1.cell (p:=⟨b,2,none⟩) hblt).trans c2;have k3:w1.cell? ⟨b,3,none⟩=some (.pointer ur):=(hB1.cell (p:=⟨b,3,none⟩) hblt).trans c3;have hlt1:b < w1.heap.size:=World.block_lt_of_cell? _ _ k0;have hn1:=hP1.2.2;have HT1:=hide hT1;have HB1:=hide hB1;have HP1:=hide hP1;have Hp1:=hide hp1;clear hT1 hB1 hP1 hp1)
   | (go_at_call 232;refine (balance_at HUL.out Hp1.out a (by exact InT.below HB1.out (inT_drewN Hl.out)) (by exact HT1.out) (by omega)).mono ?_;rintro e w2 ⟨p2,T2,rfl,hp2,hT2,hB2,hL2⟩;have j0:w2.cell? ⟨b,0,none⟩=some (.int .i64 a):=(hB2.cell (p:=⟨b,0,none⟩) hlt1).trans k0;have j2:w2.cell? ⟨b,2,none⟩=some (.pointer ul):=(hB2.cell (p:=⟨b,2,none⟩) hlt1).trans k2;have j3:w2.cell? ⟨b,3,none⟩=some (.pointer ur):=(hB2.cell (p:=⟨b,3,none⟩) hlt1).trans k3;have HT2:=hide hT2;have HB2:=hide hB2;have HL2:=hide hL2;have Hp2:=hide hp2;clear hT2 hB2 hL2 hp2))
 go_wp2
 go_ret
 exact ⟨p2,T2,rfl,Hp2.out,HT2.out,(below_drew HB1.out).trans (HB2.out.mono (below_drew HB1.out).size),by rw [HL2.out,lst];exact put_right (by have:=HUP.out;rwa [lst] at this) sordInt hxa HP1.out⟩
theorem with_any (x:Int) (T:BT Int):WithSaid x T:=by
 induction T with
 | nil=>exact with_nil x
 | node b o a l r ihl ihr=>
  intro u w hu h hup hx hb
  have ho:o=0:=h.1
  subst ho
  rcases Int.lt_trichotomy x a with c | c | c
  ·exact with_left x a b l r ihl u w hu h hup hx hb c
  ·exact absurd (by rw [lst];simp [c]) hx
  ·exact with_right x a b l r ihr u w hu h hup hx hb c
def SetAt (w:World) (sb:Nat) (T:BT Int):Prop:=w.cell? ⟨sb,0,none⟩=some T.ptr∧w.frozen? ⟨sb,0,none⟩=false∧InT eI w T∧(lst T).Pairwise (fun a b:Int=>a < b)
set_option maxHeartbeats 1000000 in
theorem has_any (sb:Nat) (T:BT Int) (x:Int) (w:World) (h:SetAt w sb T) :
  Calls Tryz.prog 163 #[.pointer (some ⟨sb,0,none⟩), .int .i64 x] w fun e w'=>e=.returned (.bool (decide (x ∈ lst T)))∧w'=w:=by
 obtain ⟨hc,_,hT,hup⟩:=h
 obtain ⟨u,hu⟩:=ptr_pointer T
 rw [hu] at hc
 have HT:Hid (T.ptr=.pointer u∧InT eI w T∧(lst T).Pairwise (fun a b:Int=>a < b)):=⟨hu,hT,hup⟩
 clear hu hT hup
 go_enter Tryz.func163,Tryz.ntmps163
 go_wp2_with fail
 go_loopg [5] (lst T).length (fun k p wr=>wr=w∧∃ u',∃ S:BT Int,p=.pointer u'∧(lst S).length=k∧S.ptr=.pointer u'∧InT eI w S∧(lst S).Pairwise (fun a b:Int=>a < b)∧decide (x ∈ lst S)=decide (x ∈ lst T))
 case atStart=>exact ⟨rfl,u,T,rfl,rfl,HT.out.1,HT.out.2.1,HT.out.2.2,rfl⟩
 case round=>
  obtain ⟨rfl,u',S,rfl,hk,hu',hS,hups,hin⟩:=hrel
  have HIN:=hide hin
  have HK:=hide hk
  clear hin hk HT
  cases S with
  | nil=>
   have e:u'=none:=by
    have:Value.pointer none=.pointer u':=hu'
    injection this with h
    exact h.symm
   subst e
   clear hu' hS hups
   go_wp2
   go_ret
   exact ⟨by rw [← HIN.out];simp [lst],rfl⟩
  | node b o a l r=>
   have ho:o=0:=hS.1
   subst ho
   have e:u'=some ⟨b,0,none⟩:=by
    have:Value.pointer (some ⟨b,0,none⟩)=.pointer u':=hu'
    injection this with h
    exact h.symm
   subst e
   obtain ⟨_,c0,c1,c2,c3,hl,hr⟩:=hS
   obtain ⟨ul,hul⟩:=ptr_pointer l
   obtain ⟨ur,hur⟩:=ptr_pointer r
   rw [hul] at c2
   rw [hur] at c3
   rw [lst] at hups
   have HUPS:=hide hups
   have HL:Hid (l.ptr=.pointer ul∧InT eI wr l):=⟨hul,hl⟩
   have HR:Hid (r.ptr=.pointer ur∧InT eI wr r):=⟨hur,hr⟩
   clear hu' c1 hul hur hl hr hups hc
   rcases Int.lt_trichotomy x a with c | c | c
   ·go_wp2_with (go_at_call 229;refine (cmp_lt _ _ _ c).mono ?_;rintro e w' ⟨rfl,rfl⟩)
    go_roundg (lst l).length
    case measure=>have:=HK.out;simp [lst] at this;omega
    case rel=>exact ⟨rfl,ul,l,rfl,rfl,HL.out.1,HL.out.2,(List.pairwise_append.1 HUPS.out).1,by rw [← HIN.out,lst];exact decide_eq_decide.2 (mem_less HUPS.out sordInt c).symm⟩
   ·subst c
    go_wp2_with (go_at_call 229;refine (cmp_eq _ _).mono ?_;rintro e w' ⟨rfl,rfl⟩)
    go_ret
    exact ⟨by rw [← HIN.out];simp [lst],rfl⟩
   ·go_wp2_with (go_at_call 229;refine (cmp_gt _ _ _ c).mono ?_;rintro e w' ⟨rfl,rfl⟩)
    go_roundg (lst r).length
    case measure=>have:=HK.out;simp [lst] at this;omega
    case rel=>exact ⟨rfl,ur,r,rfl,rfl,HR.out.1,HR.out.2,(List.pairwise_cons.1 (List.pairwise_append.1 HUPS.out).2.1).2,by rw [← HIN.out,lst];exact decide_eq_decide.2 (mem_more HUPS.out sordInt c).symm⟩
end Go.Proofs.YtkncboinfcnklaaGreatDoor.WI

namespace Go.Proofs.YtkncboinfcnklaaGreatDoor.WI
open Go.RowKit Go.Deep Mth
theorem inT_set {α:Type} [NTy α] {enc:α→Value} (henc:∀ a p,enc a≠.pointer p) {w:World} {sb:Nat} {u:Option Addr} (hc:w.cell? ⟨sb,0,none⟩=some (.pointer u)) (v:Value):∀ {T:BT α},InT enc w T→InT enc (w.setCell ⟨sb,0,none⟩ v) T
 | .nil,_=>trivial
 | .node b o a l r,⟨h0,h1,h2,h3,h4,hl,hr⟩=>by
  have hne:b≠sb:=by
   rintro rfl
   rw [hc] at h1
   injection h1 with h1
   exact henc a u h1.symm
  have hk:∀ j,(w.setCell ⟨sb,0,none⟩ v).cell? ⟨b,j,none⟩=w.cell? ⟨b,j,none⟩:=fun j=>World.cell?_of_block (w:=w) (a:=⟨b,j,none⟩) (Below.heap_setCell w ⟨sb,0,none⟩ v b hne)
  exact ⟨h0,(hk _).trans h1,h2.same (Below.heap_setCell w ⟨sb,0,none⟩ v b hne),(hk _).trans h3,(hk _).trans h4,inT_set henc hc v hl,inT_set henc hc v hr⟩
theorem eI_ne (a:Int) (p:Option Addr):eI a≠.pointer p:=by intro h;cases h
def Added (w:World) (sb:Nat) (l:List Int) (x:Int) (e:Ending) (w':World):Prop:=
 e=.returned (.bool (!decide (x ∈ l)))∧∃ T:BT Int,SetAt w' sb T∧w.grownBy w' (some sb)∧(x ∈ l→lst T=l)∧(¬ x ∈ l→Put (fun a b:Int=>a < b) l x (lst T))∧(∀ C t,w.heap[sb]? = some (Obj.cells C t (0,0))→∃ C',w'.heap[sb]? = some (Obj.cells C' t (0,0)))
set_option maxHeartbeats 400000 in
theorem add_old (sb:Nat) (T:BT Int) (x:Int) (w:World) (h:SetAt w sb T) (hx:x ∈ lst T) :
  Calls Tryz.prog 101 #[.pointer (some ⟨sb,0,none⟩), .int .i64 x] w (Added w sb (lst T) x):=by
 have hs:=has_any sb T x w h
 rw [show decide (x ∈ lst T)=true from by simp [hx]] at hs
 have HS:=hide hs
 have H:=hide h
 have HX:=hide hx
 clear hs h hx
 go_enter Tryz.func101,Tryz.ntmps101
 go_wp2_with (go_at_call 163;refine HS.out.mono ?_;rintro e w' ⟨rfl,rfl⟩)
 go_ret
 exact ⟨by simp [HX.out],T,H.out,⟨rfl,rfl,rfl,Nat.le_refl _,fun _ _ _=>rfl⟩,fun _=>rfl,fun hn=>absurd HX.out hn,fun C t h=>⟨C,h⟩⟩
set_option maxHeartbeats 400000 in
theorem add_new (sb:Nat) (T:BT Int) (x:Int) (w:World) (h:SetAt w sb T) (hx:¬ x ∈ lst T) (hb:(lst T).length + 1≤4611686018427) :
  Calls Tryz.prog 101 #[.pointer (some ⟨sb,0,none⟩), .int .i64 x] w (Added w sb (lst T) x):=by
 have hs:=has_any sb T x w h
 rw [show decide (x ∈ lst T)=false from by simp [hx]] at hs
 have HS:=hide hs
 have HX:=hide hx
 obtain ⟨hc,hf,hT,hup⟩:=h
 obtain ⟨u,hu⟩:=ptr_pointer T
 rw [hu] at hc
 have W:=hide (with_any x T u w hu hT hup hx hb)
 have hsb:sb < w.heap.size:=World.block_lt_of_cell? _ _ hc
 clear hs hx hT hup hu
 go_enter Tryz.func101,Tryz.ntmps101
 go_wp2_with (first
  | (go_at_call 163;refine HS.out.mono ?_;rintro e w' ⟨rfl,rfl⟩)
  | (go_at_call 164;refine W.out.mono ?_;rintro e w1 ⟨p,T1,rfl,hp,hT1,hB1,hP1⟩;have d0:w1.cell? ⟨sb,0,none⟩=some (.pointer u):=(hB1.cell (p:=⟨sb,0,none⟩) hsb).trans hc;have d1:w1.frozen? ⟨sb,0,none⟩=false:=(hB1.frozen (p:=⟨sb,0,none⟩) hsb).trans hf;have HT1:=hide hT1;have HB1:=hide hB1;have HP1:=hide hP1;have Hp:=hide hp;clear hT1 hB1 hP1 hp))
 go_ret
 refine ⟨by simp [HX.out],T1,⟨?_,?_,inT_set eI_ne d0 _ HT1.out,HP1.out.1⟩,?_,fun h=>absurd h HX.out,fun _=>HP1.out,fun C t h=>⟨_,by have q:=(HB1.out.block sb hsb).trans h;simp [World.setCell,Array.getElem?_modify,q];rfl⟩⟩
 ·rw [Hp.out];exact World.cell?_setCell_same' _ _ _ (by rw [d0];rfl)
 ·simp [d1]
 ·refine ⟨HB1.out.os,HB1.out.tape,HB1.out.output,by simpa [World.setCell] using HB1.out.size,fun k hk hne=>?_⟩
  rw [Below.heap_setCell _ _ _ _ (by rintro rfl;exact hne rfl)]
  exact HB1.out.block k hk
theorem add_any (sb:Nat) (T:BT Int) (x:Int) (w:World) (h:SetAt w sb T) (hb:(lst T).length + 1≤4611686018427) :
  Calls Tryz.prog 101 #[.pointer (some ⟨sb,0,none⟩), .int .i64 x] w (Added w sb (lst T) x):=by
 by_cases hx:x ∈ lst T
 ·exact add_old sb T x w h hx
 ·exact add_new sb T x w h hx hb
set_option maxHeartbeats 400000 in
theorem len_any (sb:Nat) (T:BT Int) (w:World) (h:SetAt w sb T) :
  Calls Tryz.prog 153 #[.pointer (some ⟨sb,0,none⟩)] w fun e w'=>e=.returned (.int .i64 (lst T).length)∧w'=w:=by
 obtain ⟨hc,_,hT,_⟩:=h
 obtain ⟨u,hu⟩:=ptr_pointer T
 rw [hu] at hc
 have S:=hide (size_at hu hT)
 clear hu hT
 go_enter Tryz.func153,Tryz.ntmps153
 go_wp2_with (go_at_call 218;refine S.out.mono ?_;rintro e w' ⟨rfl,rfl⟩)
 go_ret
 exact ⟨rfl,rfl⟩
end Go.Proofs.YtkncboinfcnklaaGreatDoor.WI

namespace Go.Proofs.YtkncboinfcnklaaGreatDoor.WI
open Go.RowKit Go.Deep Mth
theorem Tryz.info3:(Tryz.prog.info? 3).map (fun i=>(i.zero,i.size,i.bytes))=some (some (.int .i64 0),1,8):=by kernel_rfl
theorem below_append {B:Nat} {w0 w w2:World} {v:Value} {o:Obj} {e:TypeId} {n:Nat} {xs:List Value} (hb:Below B w0 w) (hB:B≤w.heap.size) (hown:w.ownsRow B e 1 v n xs) (hg:(w.alloc o).grownBy w2 v.ownBlock):Below B w0 w2:=by
 refine (hb.alloc hB o).grown hg (by simp;omega) ?_
 intro k hk
 rcases hown.2 with ⟨h0,_⟩ | ⟨g,cap,cur,hv,hbase,_⟩
 ·subst h0;simp [Value.ownBlock] at hk
 ·subst hv;simp [Value.ownBlock] at hk;omega
def Cur (w0 w:World) (v:Value) (l:List Int):Prop:=Below w0.heap.size w0 w∧w.ownsRow w0.heap.size 3 1 v l.length (l.map eI)
theorem cur_append {w0 w w2:World} {v v2:Value} {o:Obj} {l:List Int} {a:Int} (h:Cur w0 w v l) (h2:w2.ownsRow w0.heap.size 3 1 v2 (l.length + 1) (l.map eI ++ [.int .i64 a])) (hg:(w.alloc o).grownBy w2 v.ownBlock):Cur w0 w2 v2 (l ++ [a]):=
 ⟨below_append h.1 h.1.size h.2 hg,by simpa using h2⟩
theorem cur_drewN {w0 w:World} {v:Value} {l:List Int} {n:Nat} (h:Cur w0 w v l):Cur w0 (w.drewN n) v l:=⟨⟨h.1.os,h.1.tape,h.1.output,h.1.size,h.1.block⟩,h.2⟩
def BetP (w0:World) (l:List Int) (e:Ending) (w':World):Prop:=∃ v',e=.returned v'∧Cur w0 w' v' l
def BetSaid (lo hi:Int) (w0:World) (T:BT Int):Prop:=∀ (u:Option Addr) (w:World) (v:Value) (acc:List Int),T.ptr=.pointer u→InT eI w0 T→(lst T).Pairwise (fun a b:Int=>a < b)→Cur w0 w v acc→acc.length + (lst T).length≤4194304 →
 Calls Tryz.prog 217 #[.pointer u,v, .int .i64 lo, .int .i64 hi] w (BetP w0 (acc ++ btw (fun a b:Int=>a < b) lo hi (lst T)))
set_option maxHeartbeats 400000 in
theorem bet_nil (lo hi:Int) (w0:World):BetSaid lo hi w0 .nil:=by
 intro u w v acc hu _ _ hcur _
 have hu':u=none:=by
  have:Value.pointer none=.pointer u:=hu
  injection this with h
  exact h.symm
 subst hu'
 have HC:=hide hcur
 clear hu hcur
 go_enter Tryz.func217,Tryz.ntmps217
 go_wp2
 go_ret
 exact ⟨v,rfl,by simpa [lst,btw] using HC.out⟩
set_option maxRecDepth 100000 in
set_option maxHeartbeats 4000000 in
theorem bet_node (lo hi:Int) (w0:World) (b:Nat) (a:Int) (l r:BT Int) (ihl:BetSaid lo hi w0 l) (ihr:BetSaid lo hi w0 r) (s1 s2:Int) (hs1:∀ w,Calls Tryz.prog 229 #[.int .i64 a, .int .i64 lo] w fun e w'=>e=.returned (.int .i64 s1)∧w'=w) (hs2:∀ w,Calls Tryz.prog 229 #[.int .i64 a, .int .i64 hi] w fun e w'=>e=.returned (.int .i64 s2)∧w'=w)
  (u:Option Addr) (w:World) (v:Value) (acc:List Int) (hu:(BT.node b 0 a l r).ptr=.pointer u) (h:InT eI w0 (.node b 0 a l r)) (hup:(lst (.node b 0 a l r)).Pairwise (fun a b:Int=>a < b)) (hcur:Cur w0 w v acc) (hb:acc.length + (lst (.node b 0 a l r)).length≤4194304) :
  Calls Tryz.prog 217 #[.pointer u,v, .int .i64 lo, .int .i64 hi] w (BetP w0 (acc ++ ((if 0 < s1 then btw (fun a b:Int=>a < b) lo hi (lst l) else []) ++ ((if 0≤s1∧s2≤0 then [a] else []) ++ (if s2 < 0 then btw (fun a b:Int=>a < b) lo hi (lst r) else []))))):=by
 have hu':u=some ⟨b,0,none⟩:=by
  have:Value.pointer (some ⟨b,0,none⟩)=.pointer u:=hu
  injection this with h
  exact h.symm
 subst hu'
 have hblt:=inT_lt h
 obtain ⟨_,c0,c1,c2,c3,hl,hr⟩:=h
 obtain ⟨ul,hul⟩:=ptr_pointer l
 obtain ⟨ur,hur⟩:=ptr_pointer r
 rw [hul] at c2
 rw [hur] at c3
 have hlen:(lst (.node b 0 a l r)).length=(lst l).length + 1 + (lst r).length:=by simp [lst];omega
 rw [hlen] at hb
 rw [lst] at hup
 have hB:=hcur.1
 have k0:w.cell? ⟨b,0,none⟩=some (.int .i64 a):=(hB.cell (p:=⟨b,0,none⟩) hblt).trans c0
 have k2:w.cell? ⟨b,2,none⟩=some (.pointer ul):=(hB.cell (p:=⟨b,2,none⟩) hblt).trans c2
 have k3:w.cell? ⟨b,3,none⟩=some (.pointer ur):=(hB.cell (p:=⟨b,3,none⟩) hblt).trans c3
 have IL:Hid (∀ w v acc,Cur w0 w v acc→acc.length + (lst l).length≤4194304→Calls Tryz.prog 217 #[.pointer ul,v, .int .i64 lo, .int .i64 hi] w (BetP w0 (acc ++ btw (fun a b:Int=>a < b) lo hi (lst l)))):=
  fun w v acc hc hn=>ihl ul w v acc hul hl (List.pairwise_append.1 hup).1 hc hn
 have IR:Hid (∀ w v acc,Cur w0 w v acc→acc.length + (lst r).length≤4194304→Calls Tryz.prog 217 #[.pointer ur,v, .int .i64 lo, .int .i64 hi] w (BetP w0 (acc ++ btw (fun a b:Int=>a < b) lo hi (lst r)))):=
  fun w v acc hc hn=>ihr ur w v acc hur hr (List.pairwise_cons.1 (List.pairwise_append.1 hup).2.1).2 hc hn
 have ln:∀ x:List Int,(btw (fun a b:Int=>a < b) lo hi x).length≤x.length:=fun x=>List.length_filter_le _ _
 have nl:=ln (lst l)
 have HC:=hide hcur
 have C0:=hide c0
 have C2:=hide c2
 have C3:=hide c3
 have S1:=hide hs1
 have S2:=hide hs2
 clear hu hul hur hl hr c0 c1 c2 c3 hup hlen ihl ihr hcur hB ln hs1 hs2
 generalize btw (fun a b:Int=>a < b) lo hi (lst l)=BL at *
 generalize btw (fun a b:Int=>a < b) lo hi (lst r)=BR at *
 generalize hres:acc ++ ((if 0 < s1 then BL else []) ++ ((if 0≤s1∧s2≤0 then [a] else []) ++ (if s2 < 0 then BR else [])))=res
 have HRES:=hide hres
 clear hres
 obtain ⟨i0,hi0,hz0,hz1,hz2⟩:=info_parts Tryz.info3
 go_enter Tryz.func217,Tryz.ntmps217
 go_wp2_with fail
 go_quiet (first
  | (go_at_call_of 229 (Value.int .i64 lo);exact Calls.quiet_of_same (S1.out _))
  | (go_at_call_of 229 (Value.int .i64 hi);exact Calls.quiet_of_same (S2.out _)))
 go_wp2_with (first
  | (go_at_call_of 217 (Value.pointer ul);refine (IL.out _ _ _ (cur_drewN HC.out) (by omega)).mono ?_;rintro e w1 ⟨v1,rfl,hcur1⟩;have e0:w1.cell? ⟨b,0,none⟩=some (.int .i64 a):=(hcur1.1.cell (p:=⟨b,0,none⟩) hblt).trans C0.out;have e3:w1.cell? ⟨b,3,none⟩=some (.pointer ur):=(hcur1.1.cell (p:=⟨b,3,none⟩) hblt).trans C3.out;have n1:(acc ++ BL).length≤acc.length + (lst l).length:=(by simp;omega);have HC1:=hide hcur1;clear hcur1)
  | (at_builtin;refine wpList_append_own _ rfl _ _ 149 rfl w0.heap.size 3 i0 (.int .i64 0) 1 8 Tryz.underlying149 hi0 hz0 hz1 hz2 rfl (by decide) _ _ _ rfl (HC1.out.2.alloc _) ⟨w1.heap.size,0,none⟩ 1 1 [.int .i64 a] rfl rfl (cell_one_new _ _ _) (by intro u hu;simp at hu;subst hu;rfl) (by unfold maxLen;omega) (by omega) (by have:=HC1.out.1.size;simp at this ⊢;omega) ?_;intro v2 w2 hown2 hgrow2 _;have hc2:=cur_append HC1.out hown2 hgrow2;have f0:w2.cell? ⟨b,0,none⟩=some (.int .i64 a):=(hc2.1.cell (p:=⟨b,0,none⟩) hblt).trans C0.out;have f3:w2.cell? ⟨b,3,none⟩=some (.pointer ur):=(hc2.1.cell (p:=⟨b,3,none⟩) hblt).trans C3.out;have n2:((acc ++ BL) ++ [a]).length≤(acc ++ BL).length + 1:=(by rw [List.length_append];exact Nat.le_refl _);have HC2:=hide hc2;clear hc2 hown2 hgrow2)
  | (at_builtin;refine wpList_append_own _ rfl _ _ 149 rfl w0.heap.size 3 i0 (.int .i64 0) 1 8 Tryz.underlying149 hi0 hz0 hz1 hz2 rfl (by decide) _ _ _ rfl ((cur_drewN (n:=nq) HC.out).2.alloc _) ⟨w.heap.size,0,none⟩ 1 1 [.int .i64 a] rfl rfl (cell_one_new _ _ _) (by intro u hu;simp at hu;subst hu;rfl) (by unfold maxLen;omega) (by omega) (by have:=(cur_drewN (n:=nq) HC.out).1.size;simp at this ⊢;omega) ?_;intro v2 w2 hown2 hgrow2 _;have hc2:=cur_append (cur_drewN (n:=nq) HC.out) hown2 hgrow2;have f0:w2.cell? ⟨b,0,none⟩=some (.int .i64 a):=(hc2.1.cell (p:=⟨b,0,none⟩) hblt).trans C0.out;have f3:w2.cell? ⟨b,3,none⟩=some (.pointer ur):=(hc2.1.cell (p:=⟨b,3,none⟩) hblt).trans C3.out;have n2:(acc ++ [a]).length≤acc.length + 1:=(by rw [List.length_append];exact Nat.le_refl _);have HC2:=hide hc2;clear hc2 hown2 hgrow2)
  | (go_at_call_of 217 (Value.pointer ur);refine (IR.out _ _ _ HC2.out (by omega)).mono ?_;rintro e w3 ⟨v3,rfl,hcur3⟩;have HC3:=hide hcur3;clear hcur3)
  | (go_at_call_of 217 (Value.pointer ur);refine (IR.out _ _ _ HC1.out (by omega)).mono ?_;rintro e w3 ⟨v3,rfl,hcur3⟩;have HC3:=hide hcur3;clear hcur3)
  | (go_at_call_of 217 (Value.pointer ur);refine (IR.out _ _ _ (cur_drewN HC.out) (by omega)).mono ?_;rintro e w3 ⟨v3,rfl,hcur3⟩;have HC3:=hide hcur3;clear hcur3))
 all_goals go_ret
 all_goals
  refine ⟨_,rfl,?_⟩
  rw [← HRES.out]
  first | rw [if_pos (by omega:0 < s1)] | rw [if_neg (by omega:¬ 0 < s1)]
  first | rw [if_pos (by omega:0≤s1∧s2≤0)] | rw [if_neg (by omega:¬ (0≤s1∧s2≤0))]
  first | rw [if_pos (by omega:s2 < 0)] | rw [if_neg (by omega:¬ s2 < 0)]
  first | simpa using HC3.out | simpa using HC2.out | simpa using HC1.out | simpa using (cur_drewN (n:=nq) HC.out)
end Go.Proofs.YtkncboinfcnklaaGreatDoor.WI

namespace Go.Proofs.YtkncboinfcnklaaGreatDoor.WI
open Go.RowKit Go.Deep Mth
theorem cmp_ex (x y:Int):∃ s:Int,(∀ w,Calls Tryz.prog 229 #[.int .i64 x, .int .i64 y] w fun e w'=>e=.returned (.int .i64 s)∧w'=w)∧(0 < s↔y < x)∧(s < 0↔x < y):=by
 rcases Int.lt_trichotomy x y with c | c | c
 ·exact ⟨-1,fun w=>cmp_lt x y w c,by omega,by omega⟩
 ·subst c;exact ⟨0,fun w=>cmp_eq x w,by omega,by omega⟩
 ·exact ⟨1,fun w=>cmp_gt x y w c,by omega,by omega⟩
theorem bet_any (lo hi:Int) (w0:World) (T:BT Int):BetSaid lo hi w0 T:=by
 induction T with
 | nil=>exact bet_nil lo hi w0
 | node b o a l r ihl ihr=>
  intro u w v acc hu h hup hcur hb
  have ho:o=0:=h.1
  subst ho
  obtain ⟨s1,c1,p1,q1⟩:=cmp_ex a lo
  obtain ⟨s2,c2,p2,q2⟩:=cmp_ex a hi
  have hn:=bet_node lo hi w0 b a l r ihl ihr s1 s2 c1 c2 u w v acc hu h hup hcur hb
  rw [lst] at hup
  have e:acc ++ btw (fun a b:Int=>a < b) lo hi (lst (.node b 0 a l r))=acc ++ ((if 0 < s1 then btw (fun a b:Int=>a < b) lo hi (lst l) else []) ++ ((if 0≤s1∧s2≤0 then [a] else []) ++ (if s2 < 0 then btw (fun a b:Int=>a < b) lo hi (lst r) else []))):=by
   rw [lst,btw_node]
   congr 1
   congr 1
   ·by_cases c:0 < s1
    ·rw [if_pos c]
    ·rw [if_neg c];exact btw_low hup sordInt (by omega)
   ·congr 1
    ·by_cases c:0≤s1∧s2≤0
     ·rw [if_pos c,if_pos (by omega)]
     ·rw [if_neg c,if_neg (by omega)]
    ·by_cases c:s2 < 0
     ·rw [if_pos c]
     ·rw [if_neg c];exact btw_high hup sordInt (by omega)
  rw [e]
  exact hn
set_option maxHeartbeats 400000 in
theorem between_any (sb:Nat) (T:BT Int) (lo hi:Int) (w:World) (h:SetAt w sb T) (hb:(lst T).length≤4194304) :
  Calls Tryz.prog 152 #[.pointer (some ⟨sb,0,none⟩), .int .i64 lo, .int .i64 hi] w (BetP w (btw (fun a b:Int=>a < b) lo hi (lst T))):=by
 obtain ⟨hc,_,hT,hup⟩:=h
 obtain ⟨u,hu⟩:=ptr_pointer T
 rw [hu] at hc
 have B:=hide (bet_any lo hi w T u w (.slice none 0 0) [] hu hT hup ⟨Below.refl _ _,World.ownsRow_nil _ _ _ _⟩ (by simpa using hb))
 clear hu hT hup hb
 go_enter Tryz.func152,Tryz.ntmps152
 go_wp2_with (go_at_call 217;refine B.out.mono ?_;rintro e w1 ⟨v1,rfl,hcur⟩;have HC:=hide hcur;clear hcur)
 go_ret
 exact ⟨v1,rfl,by simpa using HC.out⟩
end Go.Proofs.YtkncboinfcnklaaGreatDoor.WI

namespace Go.Proofs.YtkncboinfcnklaaGreatDoor
open Go.RowKit Go.Deep Go.Proofs.YtkncboinfcnklaaGreatDoor.Mth
theorem hideG {p:Prop} (h:p):Hid p:=h
theorem no_up {p:Nat→Bool} {n c:Nat} (hm:∀ i j,i≤j→j < n→p i=true→p j=true) (hp:p c=false) (hc:c < n):∀ q,q < c + 1→p q=false:=by
 intro q hq
 cases h:p q
 ·rfl
 ·have:=hm q c (by omega) hc h
  rw [hp] at this
  cases this
def Srch (w:World) (n:Nat) (p:Nat→Bool) (e:Ending) (w':World):Prop:=∃ k:Nat,e=.returned (.int .i64 (k:Int))∧k≤n∧(∀ i,i < k→p i=false)∧(∀ i,k≤i→i < n→p i=true)∧∃ m,w'=w.drewN m
set_option maxRecDepth 100000 in
set_option maxHeartbeats 1000000 in
theorem search_find1 (n:Nat) (x y:Nat) (p:Nat→Bool) (w:World) (hn:n≤4194304) (hm:∀ i j,i≤j→j < n→p i=true→p j=true)
  (hf:∀ i m,i < n→Calls Tryz.prog 150 #[.int .i64 (i:Int), .pointer (some ⟨x,0,none⟩), .pointer (some ⟨y,0,none⟩)] (w.drewN m) fun e w'=>e=.returned (.bool (p i))∧∃ m',w'=w.drewN m') :
  Calls Tryz.prog 149 #[.int .i64 (n:Int), .func (.func 150) #[] #[.pointer (some ⟨x,0,none⟩), .pointer (some ⟨y,0,none⟩)]] w (Srch w n p):=by
 have HM:=hideG hm
 have HF:=hideG hf
 clear hm hf
 go_enter Tryz.func149,Tryz.ntmps149
 go_wp2_with fail
 go_loopw [5,6] (fun i j wr=>∃ (a b m:Nat),a≤b∧b≤n∧i=.int .i64 a∧j=.int .i64 b∧wr=w.drewN m∧(∀ q,q < a→p q=false)∧(∀ q,b≤q→q < n→p q=true)) (fun i j _=>(intOf j).toNat - (intOf i).toNat)
 case atStart=>exact ⟨0,n,0,Nat.zero_le _,Nat.le_refl _,rfl,rfl,rfl,fun q hq=>absurd hq (Nat.not_lt_zero _),fun q h1 h2=>by omega⟩
 case round=>
  obtain ⟨a,b,m,hab,hb,rfl,rfl,rfl,h1,h2⟩:=hrel
  have H1:=hideG h1
  have H2:=hideG h2
  clear h1 h2
  by_cases hlt:a < b
  ·obtain ⟨c,hc⟩:∃ c,c=(a + b) / 2:=⟨_,rfl⟩
   have hc1:((a:Int) + (b:Int)) / 2=(c:Int):=by omega
   have hca:a≤c:=by omega
   have hcb:c < b:=by omega
   have HC:=hideG hc
   clear hc
   have CF:=hideG (HF.out c m (by omega))
   cases hp:p c
   ·have HP:=hideG hp
    rw [hp] at CF
    clear hp
    go_wp2_with (first | (rw [hc1];go_at_call 150;refine CF.out.mono ?_;rintro e w2 ⟨rfl,m2,rfl⟩) | (go_at_call 150;refine CF.out.mono ?_;rintro e w2 ⟨rfl,m2,rfl⟩))
    go_roundw
    case rel=>exact ⟨c + 1,b,m2,by omega,hb,by go_num,rfl,rfl,no_up HM.out HP.out (by omega),H2.out⟩
    case measure=>simp [intOf];omega
   ·have HP:=hideG hp
    rw [hp] at CF
    clear hp
    go_wp2_with (first | (rw [hc1];go_at_call 150;refine CF.out.mono ?_;rintro e w2 ⟨rfl,m2,rfl⟩) | (go_at_call 150;refine CF.out.mono ?_;rintro e w2 ⟨rfl,m2,rfl⟩))
    go_roundw
    case rel=>exact ⟨a,c,m2,hca,by omega,rfl,by go_num,rfl,H1.out,fun q h1 h2=>HM.out c q h1 h2 HP.out⟩
    case measure=>simp [intOf];omega
  ·have:a=b:=by omega
   subst this
   go_wp2
   go_ret
   exact ⟨a,rfl,hb,H1.out,H2.out,m,rfl⟩
set_option maxRecDepth 100000 in
set_option maxHeartbeats 1000000 in
theorem search_find2 (n:Nat) (x y:Nat) (p:Nat→Bool) (w:World) (hn:n≤4194304) (hm:∀ i j,i≤j→j < n→p i=true→p j=true)
  (hf:∀ i m,i < n→Calls Tryz.prog 151 #[.int .i64 (i:Int), .pointer (some ⟨x,0,none⟩), .pointer (some ⟨y,0,none⟩)] (w.drewN m) fun e w'=>e=.returned (.bool (p i))∧∃ m',w'=w.drewN m') :
  Calls Tryz.prog 149 #[.int .i64 (n:Int), .func (.func 151) #[] #[.pointer (some ⟨x,0,none⟩), .pointer (some ⟨y,0,none⟩)]] w (Srch w n p):=by
 have HM:=hideG hm
 have HF:=hideG hf
 clear hm hf
 go_enter Tryz.func149,Tryz.ntmps149
 go_wp2_with fail
 go_loopw [5,6] (fun i j wr=>∃ (a b m:Nat),a≤b∧b≤n∧i=.int .i64 a∧j=.int .i64 b∧wr=w.drewN m∧(∀ q,q < a→p q=false)∧(∀ q,b≤q→q < n→p q=true)) (fun i j _=>(intOf j).toNat - (intOf i).toNat)
 case atStart=>exact ⟨0,n,0,Nat.zero_le _,Nat.le_refl _,rfl,rfl,rfl,fun q hq=>absurd hq (Nat.not_lt_zero _),fun q h1 h2=>by omega⟩
 case round=>
  obtain ⟨a,b,m,hab,hb,rfl,rfl,rfl,h1,h2⟩:=hrel
  have H1:=hideG h1
  have H2:=hideG h2
  clear h1 h2
  by_cases hlt:a < b
  ·obtain ⟨c,hc⟩:∃ c,c=(a + b) / 2:=⟨_,rfl⟩
   have hc1:((a:Int) + (b:Int)) / 2=(c:Int):=by omega
   have hca:a≤c:=by omega
   have hcb:c < b:=by omega
   have HC:=hideG hc
   clear hc
   have CF:=hideG (HF.out c m (by omega))
   cases hp:p c
   ·have HP:=hideG hp
    rw [hp] at CF
    clear hp
    go_wp2_with (first | (rw [hc1];go_at_call 151;refine CF.out.mono ?_;rintro e w2 ⟨rfl,m2,rfl⟩) | (go_at_call 151;refine CF.out.mono ?_;rintro e w2 ⟨rfl,m2,rfl⟩))
    go_roundw
    case rel=>exact ⟨c + 1,b,m2,by omega,hb,by go_num,rfl,rfl,no_up HM.out HP.out (by omega),H2.out⟩
    case measure=>simp [intOf];omega
   ·have HP:=hideG hp
    rw [hp] at CF
    clear hp
    go_wp2_with (first | (rw [hc1];go_at_call 151;refine CF.out.mono ?_;rintro e w2 ⟨rfl,m2,rfl⟩) | (go_at_call 151;refine CF.out.mono ?_;rintro e w2 ⟨rfl,m2,rfl⟩))
    go_roundw
    case rel=>exact ⟨a,c,m2,hca,by omega,rfl,by go_num,rfl,H1.out,fun q h1 h2=>HM.out c q h1 h2 HP.out⟩
    case measure=>simp [intOf];omega
  ·have:a=b:=by omega
   subst this
   go_wp2
   go_ret
   exact ⟨a,rfl,hb,H1.out,H2.out,m,rfl⟩
end Go.Proofs.YtkncboinfcnklaaGreatDoor

namespace Go.Proofs.YtkncboinfcnklaaGreatDoor
open Go.RowKit Go.Deep Go.Proofs.YtkncboinfcnklaaGreatDoor.Mth
abbrev tkV (x:Nat):Value:=.agg #[.int .i64 (x:Int), .int .i64 ((x:Int) + 1)]
def RdTk (w:World) (v:Value) (l:List Nat):Prop:=
 ∃ (a:Option Addr) (c:Nat),v=.slice a l.length c∧l.length≤c∧c≤maxLen∧(l=[]∨∃ b,a=some ⟨b,0,none⟩∧∀ j,j < l.length→w.cell? ⟨b,j * 2,none⟩=some (.int .i64 ((l.getD j 0:Nat):Int))∧w.cell? ⟨b,j * 2 + 1,none⟩=some (.int .i64 (((l.getD j 0:Nat):Int) + 1)))
theorem RdTk.below {w w':World} {v:Value} {l:List Nat} (h:RdTk w v l) (hb:Below w.heap.size w w'):RdTk w' v l:=by
 obtain ⟨a,c,rfl,hc,hm,h⟩:=h
 refine ⟨a,c,rfl,hc,hm,?_⟩
 rcases h with h | ⟨b,rfl,h⟩
 ·exact Or.inl h
 ·refine Or.inr ⟨b,rfl,fun j hj=>?_⟩
  obtain ⟨h1,h2⟩:=h j hj
  exact ⟨(hb.cell (p:=⟨b,j * 2,none⟩) (World.block_lt_of_cell? _ _ h1)).trans h1,(hb.cell (p:=⟨b,j * 2 + 1,none⟩) (World.block_lt_of_cell? _ _ h2)).trans h2⟩
theorem below_allocG (w:World) (o:Obj):Below w.heap.size w (w.alloc o):=(Below.refl w.heap.size w).alloc (Nat.le_refl _) o
theorem drewG (w:World) (n:Nat):Below w.heap.size w (w.drewN n):=⟨rfl,rfl,rfl,Nat.le_refl _,fun _ _=>rfl⟩
theorem getDmem {α:Type} {l:List α} {k:Nat} {z:α} (h:k < l.length):l.getD k z ∈ l:=by
 simp [List.getD,h]
set_option maxRecDepth 100000 in
set_option maxHeartbeats 1000000 in
theorem tkIndex_any {v:Value} {l:List Nat} {w:World} (h:RdTk w v l) (x:Nat) (_hx:x≤100) (hl:∀ y ∈ l,y≤100) :
  Calls Tryz.prog 259 #[v,tkV x] w fun e w'=>∃ r:Int,e=.returned (.int .i64 r)∧decide (0≤r)=decide (x ∈ l)∧Below w.heap.size w w':=by
 obtain ⟨a,c,rfl,hc,hm,h⟩:=h
 unfold maxLen at hm
 have HB0:=hideG (below_allocG w (Obj.cells #[.int .i64 (x:Int), .int .i64 ((x:Int) + 1)] 137))
 have HH:=hideG h
 have HL:=hideG hl
 clear h hl
 have k0:(w.alloc (Obj.cells #[.int .i64 (x:Int), .int .i64 ((x:Int) + 1)] 137)).cell? ⟨w.heap.size,0,none⟩=some (.int .i64 (x:Int)):=by simp
 have k1:(w.alloc (Obj.cells #[.int .i64 (x:Int), .int .i64 ((x:Int) + 1)] 137)).cell? ⟨w.heap.size,1,none⟩=some (.int .i64 ((x:Int) + 1)):=by simp
 generalize hn:l.length=n at *
 have HN:=hideG hn
 clear hn
 go_enter Tryz.func259,Tryz.ntmps259
 go_wp2_with fail
 generalize w.alloc (Obj.cells #[.int .i64 (x:Int), .int .i64 ((x:Int) + 1)] 137)=w1 at *
 go_loopw [8] (fun i wr=>∃ k:Nat,k≤n∧i=.int .i64 k∧Below w1.heap.size w1 wr∧∀ j,j < k→l.getD j 0≠x) (fun i _=>n - (intOf i).toNat)
 case atStart=>exact ⟨0,Nat.zero_le _,rfl,Below.refl _ _,fun j hj=>absurd hj (Nat.not_lt_zero _)⟩
 case round=>
  obtain ⟨k,hk,rfl,hb,hno⟩:=hrel
  have HBW:=hideG hb
  have HNO:=hideG hno
  have q0:wr.cell? ⟨w.heap.size,0,none⟩=some (.int .i64 (x:Int)):=(hb.cell (p:=⟨w.heap.size,0,none⟩) (World.block_lt_of_cell? _ _ k0)).trans k0
  have q1:wr.cell? ⟨w.heap.size,1,none⟩=some (.int .i64 ((x:Int) + 1)):=(hb.cell (p:=⟨w.heap.size,1,none⟩) (World.block_lt_of_cell? _ _ k1)).trans k1
  clear hb hno k0 k1
  by_cases hlt:k < n
  ·rcases HH.out with h | ⟨b,rfl,h⟩
   ·have:=HN.out;rw [h] at this;simp at this;omega
   obtain ⟨h1,h2⟩:=h k hlt
   have d1:wr.cell? ⟨b,k * 2,none⟩=some (.int .i64 ((l.getD k 0:Nat):Int)):=by
    have e:=(HB0.out.cell (p:=⟨b,k * 2,none⟩) (World.block_lt_of_cell? _ _ h1)).trans h1
    exact (HBW.out.cell (p:=⟨b,k * 2,none⟩) (World.block_lt_of_cell? _ _ e)).trans e
   have d2:wr.cell? ⟨b,k * 2 + 1,none⟩=some (.int .i64 (((l.getD k 0:Nat):Int) + 1)):=by
    have e:=(HB0.out.cell (p:=⟨b,k * 2 + 1,none⟩) (World.block_lt_of_cell? _ _ h2)).trans h2
    exact (HBW.out.cell (p:=⟨b,k * 2 + 1,none⟩) (World.block_lt_of_cell? _ _ e)).trans e
   clear h h1 h2
   obtain ⟨y,hy⟩:∃ y,y=l.getD k 0:=⟨_,rfl⟩
   rw [← hy] at d1 d2
   have HY:=hideG hy
   clear hy
   by_cases hxy:x=y
   ·subst hxy
    go_wp2
    go_quiet (fail)
    go_wp2
    go_ret
    exact ⟨k,rfl,by
     have hm:x ∈ l:=by rw [HY.out];exact getDmem (by rw [HN.out];exact hlt)
     rw [decide_eq_true hm];exact decide_eq_true (by omega),HB0.out.trans (((HBW.out.trans ((drewG wr _).mono HBW.out.size))).mono HB0.out.size)⟩
   ·have q2:((x:Int) == (y:Int))=false:=by simp;omega
    go_wp2
    go_quiet (fail)
    go_wp2
    go_roundw
    case rel=>exact ⟨k + 1,by omega,by go_num,HBW.out.trans ((drewG wr _).mono HBW.out.size),fun j hj=>by
     by_cases c:j=k
     ·subst c;rw [← HY.out];exact fun q=>hxy q.symm
     ·exact HNO.out j (by omega)⟩
    case measure=>simp [intOf];omega
  ·go_wp2
   go_ret
   exact ⟨-1,rfl,by
    have hm:¬ x ∈ l:=fun q=>by
     obtain ⟨j,hj,e⟩:=List.mem_iff_getElem.1 q
     exact HNO.out j (by rw [HN.out] at hj;omega) (by simp [List.getD,hj,e])
    rw [decide_eq_false hm];rfl,HB0.out.trans (HBW.out.mono HB0.out.size)⟩
set_option maxHeartbeats 1000000 in
theorem tkContains_any {v:Value} {l:List Nat} {w:World} (h:RdTk w v l) (x:Nat) (hx:x≤100) (hl:∀ y ∈ l,y≤100) :
  Calls Tryz.prog 223 #[v,tkV x] w fun e w'=>e=.returned (.bool (decide (x ∈ l)))∧Below w.heap.size w w':=by
 have HB0:=hideG (below_allocG w (Obj.cells #[.int .i64 (x:Int), .int .i64 ((x:Int) + 1)] 137))
 have CI:=hideG (tkIndex_any (h.below HB0.out) x hx hl)
 obtain ⟨a,c,rfl,hc,hm,h⟩:=h
 clear h
 generalize decide (x ∈ l)=bb at *
 go_enter Tryz.func223,Tryz.ntmps223
 go_wp2_with (first | (go_at_call 259;refine CI.out.mono ?_;rintro e w2 ⟨r,rfl,hr,hb⟩;have HR:=hideG hr;have HB2:=hideG hb;clear hr hb))
 go_ret
 exact ⟨by rw [← HR.out];rfl,HB0.out.trans (HB2.out.mono HB0.out.size)⟩
end Go.Proofs.YtkncboinfcnklaaGreatDoor
