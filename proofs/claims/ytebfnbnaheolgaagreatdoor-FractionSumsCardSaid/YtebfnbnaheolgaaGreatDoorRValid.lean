/- RValid, Three, BdFr, joined: no claim of its own. -/
import Derived.Test.YtebfnbnaheolgaaGreatDoorShortF
import Derived.Test.YtebfnbnaheolgaaGreatDoorRMake
import Derived.Test.YtebfnbnaheolgaaGreatDoorTwo
namespace Go.Proofs.YtebfnbnaheolgaaGreatDoor
open Go.RowKit
set_option maxRecDepth 100000 in
set_option maxHeartbeats 1000000 in
theorem rvb_zero (A B : Option Addr) (n c m d : Nat) (xs ys : List Nat) (w : World) (p q : Nat) (hx : Num w A n c xs p) (hy : Num w B m d ys q) (hq : m = 1) (hp : n = 0) (b : Bool) (hb : decide (q = 1) = b) :
    Calls Tryz.prog 6 #[.agg #[.bool false, .slice A n c, .slice B m d]] w (Gives (.bool b) w) := by
  have b0 := Lib.hid ((Below.refl w.heap.size w).alloc (Nat.le_refl _) (.cells #[.bool false, .slice A n c, .slice B m d] 27))
  subst hp
  subst hq
  have V1 := Lib.hid (rvalid_l (hx.keep b0.out).toLst hx.tightB)
  have V2 := Lib.hid (rvalid_l (hy.keep b0.out).toLst hy.tightB)
  have ex := hy.one
  obtain ⟨ad, rfl, _, hc⟩ := (hy.keep b0.out).toLst.at_ (k := 0) (by omega)
  rw [ex, add_zero_] at hc
  simp only [List.getD_cons_zero] at hc
  have hc1 := hy.cap
  have e : ((q : Int) == 1) = b := by
    rw [← hb]
    by_cases h : q = 1
    · subst h; rfl
    · rw [decide_eq_false h]; exact beq_eq_false_iff_ne.2 (by omega)
  clear hx hy hb ex
  go_enter Tryz.func6, Tryz.ntmps6
  go_wp2_with fail
  refine V1.out.mono ?_
  rintro e w' ⟨rfl, rfl⟩
  go_wp2_with fail
  refine V2.out.mono ?_
  rintro e w' ⟨rfl, rfl⟩
  go_wp2
  go_ret
  exact ⟨rfl, b0.out⟩
set_option maxRecDepth 100000 in
set_option maxHeartbeats 1000000 in
theorem rvb_gcd (s : Bool) (A B : Option Addr) (n c m d : Nat) (xs ys : List Nat) (w : World) (p q : Nat) (hx : Num w A n c xs p) (hy : Num w B m d ys q) (i : Nat) (pp : p < 4294967296 ^ i) (pq : q < 4294967296 ^ i) (hi : i ≤ 900000) (hq : 0 < m) (hp : 0 < n) (b : Bool) (T : Nat) (hT : Nat.gcd p q = T) (hb : decide (T = 1) = b) :
    Calls Tryz.prog 6 #[.agg #[.bool s, .slice A n c, .slice B m d]] w (Gives (.bool b) w) := by
  have b0 := Lib.hid ((Below.refl w.heap.size w).alloc (Nat.le_refl _) (.cells #[.bool s, .slice A n c, .slice B m d] 27))
  have V1 := Lib.hid (rvalid_l (hx.keep b0.out).toLst hx.tightB)
  have V2 := Lib.hid (rvalid_l (hy.keep b0.out).toLst hy.tightB)
  have mz : ((m : Int) == 0) = false := beq_eq_false_iff_ne.2 (by omega)
  have nz : ((n : Int) == 0) = false := beq_eq_false_iff_ne.2 (by omega)
  have G1 := Lib.hid (hT ▸ rgcd_s (hx.keep b0.out) (hy.keep b0.out) pp pq hi hi)
  have HB := Lib.hid hb
  clear hx hy hq hp hb hT pp pq hi
  go_enter Tryz.func6, Tryz.ntmps6
  go_wp2_with fail
  refine V1.out.mono ?_
  rintro e w' ⟨rfl, rfl⟩
  go_wp2_with fail
  refine V2.out.mono ?_
  rintro e w' ⟨rfl, rfl⟩
  go_wp2_with fail
  refine G1.out.mono ?_
  rintro e w1 ⟨Ag, ng, cg, xg, rfl, hN, hb⟩
  have B1 := Lib.hid (b0.out.trans (hb.mono b0.out.size))
  clear hb b0
  by_cases h1 : ng = 1
  · subst h1
    have ex := hN.one
    obtain ⟨ad, rfl, _, hc⟩ := hN.toLst.at_ (k := 0) (by omega)
    rw [ex, add_zero_] at hc
    simp only [List.getD_cons_zero] at hc
    have hc1 := hN.cap
    have e : ((T : Int) == 1) = b := by
      rw [← HB.out]
      by_cases h : T = 1
      · subst h; rfl
      · rw [decide_eq_false h]; exact beq_eq_false_iff_ne.2 (by omega)
    clear hN ex HB
    go_wp2
    go_ret
    exact ⟨rfl, B1.out⟩
  · have e : b = false := by
      rw [← HB.out]
      refine decide_eq_false fun ha => h1 ?_
      have h2 := hN.len_le (k := 1) (by rw [ha]; decide)
      have h3 := hN.npos (by omega)
      omega
    subst e
    have hz : ((ng : Int) == 1) = false := beq_eq_false_iff_ne.2 (by omega)
    clear hN HB h1
    go_wp2
    go_ret
    exact ⟨rfl, B1.out⟩
theorem rvalid_big {s : Bool} {A B : Option Addr} {n c m d : Nat} {xs ys : List Nat} {w : World} {p q i : Nat} (hx : Num w A n c xs p) (hy : Num w B m d ys q) (ok : Fr.Ok ⟨s, p, q⟩) (pp : p < 4294967296 ^ i) (pq : q < 4294967296 ^ i) (hi : i ≤ 900000) :
    Calls Tryz.prog 6 #[.agg #[.bool s, .slice A n c, .slice B m d]] w (Gives (.bool true) w) := by
  rcases Nat.eq_zero_or_pos p with h0 | h0
  · subst h0
    have e := ok.zero
    have es : s = false := congrArg Fr.s e
    have eq1 : q = 1 := congrArg Fr.q e
    subst es; subst eq1
    have n0 : n = 0 := by
      rcases Nat.eq_zero_or_pos n with h | h
      · exact h
      · have := hx.pos h; omega
    have m1 : m = 1 := by
      have h2 := hy.len_le (k := 1) (by decide)
      have h3 := hy.npos (by decide)
      omega
    exact rvb_zero A B n c m d xs ys w 0 1 hx hy m1 n0 true rfl
  · exact rvb_gcd s A B n c m d xs ys w p q hx hy i pp pq hi (hy.npos ok.1) (hx.npos h0) true 1 ok.2.1 rfl
end Go.Proofs.YtebfnbnaheolgaaGreatDoor
namespace Go.Proofs.YtebfnbnaheolgaaGreatDoor
open Go.RowKit
/-- The fraction X in the variable g. -/
structure FrAt (g : Nat) (X : Fr) (A : Option Addr) (n c : Nat) (B : Option Addr) (m d : Nat) (xs ys : List Nat) (W : World) : Prop where
  x : Num W A n c xs X.p
  y : Num W B m d ys X.q
  h : FB W g X.s A n c B m d
theorem FrAt.keep {g : Nat} {X : Fr} {A B : Option Addr} {n c m d : Nat} {xs ys : List Nat} {W W' : World} (h : FrAt g X A n c B m d xs ys W) (hb : Below W.heap.size W W') : FrAt g X A n c B m d xs ys W' := ⟨h.x.keep hb, h.y.keep hb, h.h.keep hb⟩
theorem FrAt.drew {g : Nat} {X : Fr} {A B : Option Addr} {n c m d : Nat} {xs ys : List Nat} {W : World} (h : FrAt g X A n c B m d xs ys W) : FrAt g X A n c B m d xs ys W.drew := h.keep (Below.refl _ _).drew
/-- A function of two fractions gives the fraction T for X and Y. -/
def Op2 (f : Nat) (X Y T : Fr) : Prop := ∀ (W : World) (A A' B B' : Option Addr) (n c m d n' c' m' d' : Nat) (xs ys xs' ys' : List Nat), Num W A n c xs X.p → Num W B m d ys X.q → Num W A' n' c' xs' Y.p → Num W B' m' d' ys' Y.q → Calls Tryz.prog f #[.agg #[.bool X.s, .slice A n c, .slice B m d], .agg #[.bool Y.s, .slice A' n' c', .slice B' m' d']] W (GivesFr T W)
theorem Op2.call {f : Nat} {X Y T : Fr} (h : Hid (Op2 f X Y T)) {W : World} {A A' B B' : Option Addr} {n c m d n' c' m' d' : Nat} {xs ys xs' ys' : List Nat} (xa : Num W A n c xs X.p) (xb : Num W B m d ys X.q) (ya : Num W A' n' c' xs' Y.p) (yb : Num W B' m' d' ys' Y.q) : Calls Tryz.prog f #[.agg #[.bool X.s, .slice A n c, .slice B m d], .agg #[.bool Y.s, .slice A' n' c', .slice B' m' d']] W (GivesFr T W) := h.out W A A' B B' n c m d n' c' m' d' xs ys xs' ys' xa xb ya yb
/-- A function of one fraction. -/
def Op1 (f : Nat) (X T : Fr) : Prop := ∀ (W : World) (A B : Option Addr) (n c m d : Nat) (xs ys : List Nat), Num W A n c xs X.p → Num W B m d ys X.q → Calls Tryz.prog f #[.agg #[.bool X.s, .slice A n c, .slice B m d]] W (GivesFr T W)
theorem Op1.call {f : Nat} {X T : Fr} (h : Hid (Op1 f X T)) {W : World} {A B : Option Addr} {n c m d : Nat} {xs ys : List Nat} (xa : Num W A n c xs X.p) (xb : Num W B m d ys X.q) : Calls Tryz.prog f #[.agg #[.bool X.s, .slice A n c, .slice B m d]] W (GivesFr T W) := h.out W A B n c m d xs ys xa xb
def OpV (f : Nat) (X : Fr) (v : Value) : Prop := ∀ (W : World) (A B : Option Addr) (n c m d : Nat) (xs ys : List Nat), Num W A n c xs X.p → Num W B m d ys X.q → Calls Tryz.prog f #[.agg #[.bool X.s, .slice A n c, .slice B m d]] W (Gives v W)
theorem OpV.call {f : Nat} {X : Fr} {v : Value} (h : Hid (OpV f X v)) {W : World} {A B : Option Addr} {n c m d : Nat} {xs ys : List Nat} (xa : Num W A n c xs X.p) (xb : Num W B m d ys X.q) : Calls Tryz.prog f #[.agg #[.bool X.s, .slice A n c, .slice B m d]] W (Gives v W) := h.out W A B n c m d xs ys xa xb
def OpE (f : Nat) (X Y T : Fr) (k : Int) : Prop := ∀ (W : World) (A A' B B' : Option Addr) (n c m d n' c' m' d' : Nat) (xs ys xs' ys' : List Nat), Num W A n c xs X.p → Num W B m d ys X.q → Num W A' n' c' xs' Y.p → Num W B' m' d' ys' Y.q → Calls Tryz.prog f #[.agg #[.bool X.s, .slice A n c, .slice B m d], .agg #[.bool Y.s, .slice A' n' c', .slice B' m' d']] W (GivesFrE T k W)
theorem OpE.call {f : Nat} {X Y T : Fr} {k : Int} (h : Hid (OpE f X Y T k)) {W : World} {A A' B B' : Option Addr} {n c m d n' c' m' d' : Nat} {xs ys xs' ys' : List Nat} (xa : Num W A n c xs X.p) (xb : Num W B m d ys X.q) (ya : Num W A' n' c' xs' Y.p) (yb : Num W B' m' d' ys' Y.q) : Calls Tryz.prog f #[.agg #[.bool X.s, .slice A n c, .slice B m d], .agg #[.bool Y.s, .slice A' n' c', .slice B' m' d']] W (GivesFrE T k W) := h.out W A A' B B' n c m d n' c' m' d' xs ys xs' ys' xa xb ya yb
/-- Three fractions in the first three variables of a call that began at w0. -/
structure ThreeIn (w0 : World) (X : Fr) (A : Option Addr) (n c : Nat) (B : Option Addr) (m d : Nat) (xs ys : List Nat) (Y : Fr) (A' : Option Addr) (n' c' : Nat) (B' : Option Addr) (m' d' : Nat) (xs' ys' : List Nat) (Z : Fr) (A'' : Option Addr) (n'' c'' : Nat) (B'' : Option Addr) (m'' d'' : Nat) (xs'' ys'' : List Nat) (W : World) : Prop where
  a : FrAt w0.heap.size X A n c B m d xs ys W
  b : FrAt (w0.heap.size + 1) Y A' n' c' B' m' d' xs' ys' W
  c : FrAt (w0.heap.size + 1 + 1) Z A'' n'' c'' B'' m'' d'' xs'' ys'' W
  r : Below w0.heap.size w0 W
section
variable {w0 : World} {X : Fr} {A : Option Addr} {n c : Nat} {B : Option Addr} {m d : Nat} {xs ys : List Nat} {Y : Fr} {A' : Option Addr} {n' c' : Nat} {B' : Option Addr} {m' d' : Nat} {xs' ys' : List Nat} {Z : Fr} {A'' : Option Addr} {n'' c'' : Nat} {B'' : Option Addr} {m'' d'' : Nat} {xs'' ys'' : List Nat} {W W' : World}
theorem ThreeIn.keep (h : ThreeIn w0 X A n c B m d xs ys Y A' n' c' B' m' d' xs' ys' Z A'' n'' c'' B'' m'' d'' xs'' ys'' W) (hb : Below W.heap.size W W') : ThreeIn w0 X A n c B m d xs ys Y A' n' c' B' m' d' xs' ys' Z A'' n'' c'' B'' m'' d'' xs'' ys'' W' := ⟨h.a.keep hb, h.b.keep hb, h.c.keep hb, h.r.trans (hb.mono h.r.size)⟩
theorem ThreeIn.drew (h : ThreeIn w0 X A n c B m d xs ys Y A' n' c' B' m' d' xs' ys' Z A'' n'' c'' B'' m'' d'' xs'' ys'' W) : ThreeIn w0 X A n c B m d xs ys Y A' n' c' B' m' d' xs' ys' Z A'' n'' c'' B'' m'' d'' xs'' ys'' W.drew := h.keep (Below.refl _ _).drew
theorem FB.new_ {g : Nat} (w : World) (hg : w.heap.size = g) (s : Bool) (A : Option Addr) (n c : Nat) (B : Option Addr) (m d : Nat) : FB (w.alloc (.cells #[.bool s, .slice A n c, .slice B m d] 27)) g s A n c B m d := hg ▸ FB.new w s A n c B m d
theorem ThreeIn.start (hx : Num w0 A n c xs X.p) (hy : Num w0 B m d ys X.q) (hx' : Num w0 A' n' c' xs' Y.p) (hy' : Num w0 B' m' d' ys' Y.q) (hx'' : Num w0 A'' n'' c'' xs'' Z.p) (hy'' : Num w0 B'' m'' d'' ys'' Z.q) :
    ThreeIn w0 X A n c B m d xs ys Y A' n' c' B' m' d' xs' ys' Z A'' n'' c'' B'' m'' d'' xs'' ys'' (((w0.alloc (.cells #[.bool X.s, .slice A n c, .slice B m d] 27)).alloc (.cells #[.bool Y.s, .slice A' n' c', .slice B' m' d'] 27)).alloc (.cells #[.bool Z.s, .slice A'' n'' c'', .slice B'' m'' d''] 27)) := by
  have b1 := (below_alloc w0 (.cells #[.bool X.s, .slice A n c, .slice B m d] 27))
  have b2 := b1.alloc b1.size (.cells #[.bool Y.s, .slice A' n' c', .slice B' m' d'] 27)
  have b3 := b2.alloc b2.size (.cells #[.bool Z.s, .slice A'' n'' c'', .slice B'' m'' d''] 27)
  exact ⟨⟨hx.keep b3, hy.keep b3, ((FB.new w0 _ _ _ _ _ _ _).alloc _).alloc _⟩, ⟨hx'.keep b3, hy'.keep b3, (FB.new_ _ (by simp) _ _ _ _ _ _ _).alloc _⟩, ⟨hx''.keep b3, hy''.keep b3, FB.new_ _ (by simp) _ _ _ _ _ _ _⟩, b3⟩
theorem FrAt.st {g g' : Nat} {z s : Bool} {C D E G : Option Addr} {i j k l e1 e2 e3 e4 : Nat} (h : FrAt g' X A n c B m d xs ys W) (zF : FB W g z C i j D k l) (hne : g' ≠ g) : FrAt g' X A n c B m d xs ys (stFr W g s E e1 e2 G e3 e4) :=
  ⟨h.x.grown zF (grown_st _ _ _ _ _ _ _ _ _), h.y.grown zF (grown_st _ _ _ _ _ _ _ _ _), h.h.off3 (grown_st _ _ _ _ _ _ _ _ _) hne⟩
theorem ThreeIn.st {g : Nat} {z s : Bool} {C D E G : Option Addr} {i j k l e1 e2 e3 e4 : Nat} (h : ThreeIn w0 X A n c B m d xs ys Y A' n' c' B' m' d' xs' ys' Z A'' n'' c'' B'' m'' d'' xs'' ys'' W) (zF : FB W g z C i j D k l) (hg : w0.heap.size + 1 + 1 < g) : ThreeIn w0 X A n c B m d xs ys Y A' n' c' B' m' d' xs' ys' Z A'' n'' c'' B'' m'' d'' xs'' ys'' (stFr W g s E e1 e2 G e3 e4) :=
  ⟨h.a.st zF (by omega), h.b.st zF (by omega), h.c.st zF (by omega), h.r.trans (grown_below (grown_st _ _ _ _ _ _ _ _ _) (by omega) h.r.size)⟩
theorem FrAt.fresh {g : Nat} {z : Bool} {C D : Option Addr} {i j k l : Nat} (hx : Num W A n c xs X.p) (hy : Num W B m d ys X.q) (zF : FB W g z C i j D k l) : FrAt g X A n c B m d xs ys (stFr W g X.s A n c B m d) :=
  ⟨hx.grown zF (grown_st _ _ _ _ _ _ _ _ _), hy.grown zF (grown_st _ _ _ _ _ _ _ _ _), zF.st _ _ _ _ _ _ _⟩
theorem FrAt.made {g : Nat} (hx : Num W A n c xs X.p) (hy : Num W B m d ys X.q) (hg : W.heap.size = g) : FrAt g X A n c B m d xs ys (W.alloc (.cells #[.bool X.s, .slice A n c, .slice B m d] 27)) :=
  ⟨hx.keep (below_alloc _ _), hy.keep (below_alloc _ _), FB.new_ _ hg _ _ _ _ _ _ _⟩
section
variable {S P : Fr} {A1 : Option Addr} {n1 c1 : Nat} {x1 : List Nat} {A2 : Option Addr} {n2 c2 : Nat} {x2 : List Nat} {A3 : Option Addr} {n3 c3 : Nat} {x3 : List Nat} {A4 : Option Addr} {n4 c4 : Nat} {x4 : List Nat} {g7 g8 : Nat} {z z' : Bool} {C D E G : Option Addr} {i j k l e1 e2 e3 e4 : Nat}
theorem end_1 (I : ThreeIn w0 X A n c B m d xs ys Y A' n' c' B' m' d' xs' ys' Z A'' n'' c'' B'' m'' d'' xs'' ys'' W) (s1 : Num W A1 n1 c1 x1 S.p) (s2 : Num W A2 n2 c2 x2 S.q) (p1 : Num W A3 n3 c3 x3 P.p) (p2 : Num W A4 n4 c4 x4 P.q) :
    ThreeIn w0 X A n c B m d xs ys Y A' n' c' B' m' d' xs' ys' Z A'' n'' c'' B'' m'' d'' xs'' ys'' ((W.alloc (.cells #[.bool S.s, .slice A1 n1 c1, .slice A2 n2 c2] 27)).alloc (.cells #[.bool P.s, .slice A3 n3 c3, .slice A4 n4 c4] 27)) ∧ FrAt W.heap.size S A1 n1 c1 A2 n2 c2 x1 x2 ((W.alloc (.cells #[.bool S.s, .slice A1 n1 c1, .slice A2 n2 c2] 27)).alloc (.cells #[.bool P.s, .slice A3 n3 c3, .slice A4 n4 c4] 27)) ∧ FrAt (W.heap.size + 1) P A3 n3 c3 A4 n4 c4 x3 x4 ((W.alloc (.cells #[.bool S.s, .slice A1 n1 c1, .slice A2 n2 c2] 27)).alloc (.cells #[.bool P.s, .slice A3 n3 c3, .slice A4 n4 c4] 27)) :=
  ⟨(I.keep (below_alloc _ _)).keep (below_alloc _ _), (FrAt.made s1 s2 rfl).keep (below_alloc _ _), FrAt.made (p1.keep (below_alloc _ _)) (p2.keep (below_alloc _ _)) (by simp)⟩
theorem end_2 (I : ThreeIn w0 X A n c B m d xs ys Y A' n' c' B' m' d' xs' ys' Z A'' n'' c'' B'' m'' d'' xs'' ys'' W) (s1 : Num W A1 n1 c1 x1 S.p) (s2 : Num W A2 n2 c2 x2 S.q) (p1 : Num W A3 n3 c3 x3 P.p) (p2 : Num W A4 n4 c4 x4 P.q) :
    ThreeIn w0 X A n c B m d xs ys Y A' n' c' B' m' d' xs' ys' Z A'' n'' c'' B'' m'' d'' xs'' ys'' ((W.alloc (.cells #[.bool P.s, .slice A3 n3 c3, .slice A4 n4 c4] 27)).alloc (.cells #[.bool S.s, .slice A1 n1 c1, .slice A2 n2 c2] 27)) ∧ FrAt (W.heap.size + 1) S A1 n1 c1 A2 n2 c2 x1 x2 ((W.alloc (.cells #[.bool P.s, .slice A3 n3 c3, .slice A4 n4 c4] 27)).alloc (.cells #[.bool S.s, .slice A1 n1 c1, .slice A2 n2 c2] 27)) ∧ FrAt W.heap.size P A3 n3 c3 A4 n4 c4 x3 x4 ((W.alloc (.cells #[.bool P.s, .slice A3 n3 c3, .slice A4 n4 c4] 27)).alloc (.cells #[.bool S.s, .slice A1 n1 c1, .slice A2 n2 c2] 27)) :=
  ⟨(I.keep (below_alloc _ _)).keep (below_alloc _ _), FrAt.made (s1.keep (below_alloc _ _)) (s2.keep (below_alloc _ _)) (by simp), (FrAt.made p1 p2 rfl).keep (below_alloc _ _)⟩
theorem end_4 (I : ThreeIn w0 X A n c B m d xs ys Y A' n' c' B' m' d' xs' ys' Z A'' n'' c'' B'' m'' d'' xs'' ys'' W) (s1 : Num W A1 n1 c1 x1 S.p) (s2 : Num W A2 n2 c2 x2 S.q) (p1 : Num W A3 n3 c3 x3 P.p) (p2 : Num W A4 n4 c4 x4 P.q) (zF : FB W g7 z C i j D k l) (zG : FB W g8 z' E e1 e2 G e3 e4) (h7 : w0.heap.size + 1 + 1 < g7) (h8 : w0.heap.size + 1 + 1 < g8) (hne : g7 ≠ g8) :
    ThreeIn w0 X A n c B m d xs ys Y A' n' c' B' m' d' xs' ys' Z A'' n'' c'' B'' m'' d'' xs'' ys'' (stFr (stFr W g7 S.s A1 n1 c1 A2 n2 c2) g8 P.s A3 n3 c3 A4 n4 c4) ∧ FrAt g7 S A1 n1 c1 A2 n2 c2 x1 x2 (stFr (stFr W g7 S.s A1 n1 c1 A2 n2 c2) g8 P.s A3 n3 c3 A4 n4 c4) ∧ FrAt g8 P A3 n3 c3 A4 n4 c4 x3 x4 (stFr (stFr W g7 S.s A1 n1 c1 A2 n2 c2) g8 P.s A3 n3 c3 A4 n4 c4) := by
  have zG' := zG.off3 (grown_st W g7 S.s A1 n1 c1 A2 n2 c2) (fun h => hne h.symm)
  exact ⟨(I.st zF h7).st zG' h8, (FrAt.fresh s1 s2 zF).st zG' hne, FrAt.fresh (p1.grown zF (grown_st _ _ _ _ _ _ _ _ _)) (p2.grown zF (grown_st _ _ _ _ _ _ _ _ _)) zG'⟩
theorem end_3 (I : ThreeIn w0 X A n c B m d xs ys Y A' n' c' B' m' d' xs' ys' Z A'' n'' c'' B'' m'' d'' xs'' ys'' W) (s1 : Num W A1 n1 c1 x1 S.p) (s2 : Num W A2 n2 c2 x2 S.q) (p1 : Num W A3 n3 c3 x3 P.p) (p2 : Num W A4 n4 c4 x4 P.q) (zF : FB W g7 z C i j D k l) (h7 : w0.heap.size + 1 + 1 < g7) :
    ThreeIn w0 X A n c B m d xs ys Y A' n' c' B' m' d' xs' ys' Z A'' n'' c'' B'' m'' d'' xs'' ys'' (stFr (stFr (W.alloc (.cells #[.bool z', .slice E e1 e2, .slice G e3 e4] 27)) g7 S.s A1 n1 c1 A2 n2 c2) W.heap.size P.s A3 n3 c3 A4 n4 c4) ∧ FrAt g7 S A1 n1 c1 A2 n2 c2 x1 x2 (stFr (stFr (W.alloc (.cells #[.bool z', .slice E e1 e2, .slice G e3 e4] 27)) g7 S.s A1 n1 c1 A2 n2 c2) W.heap.size P.s A3 n3 c3 A4 n4 c4) ∧ FrAt W.heap.size P A3 n3 c3 A4 n4 c4 x3 x4 (stFr (stFr (W.alloc (.cells #[.bool z', .slice E e1 e2, .slice G e3 e4] 27)) g7 S.s A1 n1 c1 A2 n2 c2) W.heap.size P.s A3 n3 c3 A4 n4 c4) := by
  have hl := zF.lt
  have ba := below_alloc W (.cells #[.bool z', .slice E e1 e2, .slice G e3 e4] 27)
  exact end_4 (I.keep ba) (s1.keep ba) (s2.keep ba) (p1.keep ba) (p2.keep ba) (zF.keep ba) (FB.new _ _ _ _ _ _ _ _) h7 (by omega) (by omega)
theorem end_5 (I : ThreeIn w0 X A n c B m d xs ys Y A' n' c' B' m' d' xs' ys' Z A'' n'' c'' B'' m'' d'' xs'' ys'' W) (s1 : Num W A1 n1 c1 x1 S.p) (s2 : Num W A2 n2 c2 x2 S.q) (p1 : Num W A3 n3 c3 x3 P.p) (p2 : Num W A4 n4 c4 x4 P.q) (zF : FB W g8 z C i j D k l) (h8 : w0.heap.size + 1 + 1 < g8) :
    ThreeIn w0 X A n c B m d xs ys Y A' n' c' B' m' d' xs' ys' Z A'' n'' c'' B'' m'' d'' xs'' ys'' (stFr (W.alloc (.cells #[.bool S.s, .slice A1 n1 c1, .slice A2 n2 c2] 27)) g8 P.s A3 n3 c3 A4 n4 c4) ∧ FrAt W.heap.size S A1 n1 c1 A2 n2 c2 x1 x2 (stFr (W.alloc (.cells #[.bool S.s, .slice A1 n1 c1, .slice A2 n2 c2] 27)) g8 P.s A3 n3 c3 A4 n4 c4) ∧ FrAt g8 P A3 n3 c3 A4 n4 c4 x3 x4 (stFr (W.alloc (.cells #[.bool S.s, .slice A1 n1 c1, .slice A2 n2 c2] 27)) g8 P.s A3 n3 c3 A4 n4 c4) := by
  have hl := zF.lt
  have ba := below_alloc W (.cells #[.bool S.s, .slice A1 n1 c1, .slice A2 n2 c2] 27)
  exact ⟨(I.keep ba).st (zF.keep ba) h8, (FrAt.made s1 s2 rfl).st (zF.keep ba) (by omega), FrAt.fresh (p1.keep ba) (p2.keep ba) (zF.keep ba)⟩
end
end
theorem FB.ne_new {w : World} {g : Nat} {s : Bool} {A B : Option Addr} {n c m d : Nat} (h : FB w g s A n c B m d) : g ≠ w.heap.size ∧ w.heap.size ≠ g := ⟨by have := h.lt; omega, by have := h.lt; omega⟩
theorem FB.ne_two {w : World} {g g' : Nat} {s s' : Bool} {A B A' B' : Option Addr} {n c m d n' c' m' d' : Nat} (_h : FB w g s A n c B m d) (_k : FB w g' s' A' n' c' B' m' d') (hne : g < g') : g ≠ g' ∧ g' ≠ g := ⟨by omega, by omega⟩
theorem Num.aad {w : World} {A : Option Addr} {n c a : Nat} {xs : List Nat} (h : Num w.drew A n c xs a) (o o2 : Obj) : Num ((w.alloc o).alloc o2).drew A n c xs a := (h.ad o).keep (below_alloc (w.alloc o).drew o2)
theorem aad_keep {w : World} {o o2 : Obj} {p : Addr} {v : Value} (h : w.drew.cell? p = some v) : ((w.alloc o).alloc o2).drew.cell? p = some v := al_keep (w := (w.alloc o).drew) (ad_keep h)
theorem below_aad {w w' : World} {o o2 : Obj} (hb : Below ((w.alloc o).alloc o2).drew.heap.size ((w.alloc o).alloc o2).drew w') : Below w.drew.heap.size w.drew w' := below_ad (below_al (w := (w.alloc o).drew) (o := o2) hb)
theorem FB.aal1 {w w' : World} {s : Bool} {A B : Option Addr} {n c m d : Nat} {o : Obj} (hb : Below ((w.alloc (.cells #[.bool s, .slice A n c, .slice B m d] 27)).alloc o).heap.size ((w.alloc (.cells #[.bool s, .slice A n c, .slice B m d] 27)).alloc o) w') : FB w' w.heap.size s A n c B m d := ((FB.new w s A n c B m d).alloc o).keep hb
theorem FB.aal2 {w w' : World} {s : Bool} {A B : Option Addr} {n c m d : Nat} {o : Obj} (hb : Below ((w.alloc o).alloc (.cells #[.bool s, .slice A n c, .slice B m d] 27)).heap.size ((w.alloc o).alloc (.cells #[.bool s, .slice A n c, .slice B m d] 27)) w') : FB w' (w.heap.size + 1) s A n c B m d := (FB.new_ (w.alloc o) (by simp) s A n c B m d).keep hb
theorem FB.aad1 {w w' : World} {s : Bool} {A B : Option Addr} {n c m d : Nat} {o : Obj} (hb : Below ((w.alloc (.cells #[.bool s, .slice A n c, .slice B m d] 27)).alloc o).drew.heap.size ((w.alloc (.cells #[.bool s, .slice A n c, .slice B m d] 27)).alloc o).drew w') : FB w' w.heap.size s A n c B m d := ((FB.new w s A n c B m d).alloc o).drew.keep hb
theorem FB.aad2 {w w' : World} {s : Bool} {A B : Option Addr} {n c m d : Nat} {o : Obj} (hb : Below ((w.alloc o).alloc (.cells #[.bool s, .slice A n c, .slice B m d] 27)).drew.heap.size ((w.alloc o).alloc (.cells #[.bool s, .slice A n c, .slice B m d] 27)).drew w') : FB w' (w.heap.size + 1) s A n c B m d := (FB.new_ (w.alloc o) (by simp) s A n c B m d).drew.keep hb
end Go.Proofs.YtebfnbnaheolgaaGreatDoor
namespace Go.Proofs.YtebfnbnaheolgaaGreatDoor
open Go.RowKit
/-- A fraction in lowest terms of at most i digits. -/
structure Bd (X : Fr) (i : Nat) : Prop where
  p : X.p < 4294967296 ^ i
  q : X.q < 4294967296 ^ i
  ok : Fr.Ok X
theorem Bd.mono {X : Fr} {i j : Nat} (h : Bd X i) (hij : i ≤ j) : Bd X j := ⟨pw_more h.p hij, pw_more h.q hij, h.ok⟩
theorem Bd.neg {X : Fr} {i : Nat} (h : Bd X i) : Bd (Fr.neg X) i := ⟨h.p, h.q, Fr.neg_ok h.ok⟩
theorem ofInt_p_le (N : Int) (Q : Nat) : (Fr.ofInt N Q).p ≤ N.natAbs := Nat.div_le_self _ _
theorem ofInt_q_le (N : Int) (Q : Nat) : (Fr.ofInt N Q).q ≤ Q := Nat.div_le_self _ _
theorem Bd.mul {X Y : Fr} {i j : Nat} (h : Bd X i) (k : Bd Y j) : Bd (Fr.mul X Y) (i + j) := by
  refine ⟨pw_le (ofInt_p_le _ _) ?_, pw_le (ofInt_q_le _ _) (pw_mul h.q k.q), Fr.mul_ok h.ok k.ok⟩
  rw [Int.natAbs_mul, show X.n.natAbs = X.p from Fr.num_natAbs _ _, show Y.n.natAbs = Y.p from Fr.num_natAbs _ _]
  exact pw_mul h.p k.p
theorem Bd.add {X Y : Fr} {i j : Nat} (h : Bd X i) (k : Bd Y j) : Bd (Fr.add X Y) (i + j + 1) := by
  refine ⟨pw_le (ofInt_p_le _ _) ?_, pw_more (pw_le (ofInt_q_le _ _) (pw_mul h.q k.q)) (by omega), Fr.add_ok h.ok k.ok⟩
  refine pw_le (Int.natAbs_add_le _ _) ?_
  rw [Int.natAbs_mul, Int.natAbs_mul, show X.n.natAbs = X.p from Fr.num_natAbs _ _, show Y.n.natAbs = Y.p from Fr.num_natAbs _ _, Int.natAbs_natCast, Int.natAbs_natCast]
  exact pw_add (pw_mul h.p k.q) (pw_mul k.p h.q) (by omega) (by omega)
theorem opAdd {X Y T : Fr} (h : Bd X 100) (k : Bd Y 100) (hT : Fr.add X Y = T) : Hid (Op2 20 X Y T) :=
  Lib.hid fun W A A' B B' n c m d n' c' m' d' xs ys xs' ys' a b a' b' => hT ▸ addFr_any X.s Y.s A B A' B' n c m d n' c' m' d' X.p X.q Y.p Y.q 100 xs ys xs' ys' W a b a' b' h.ok k.ok h.p h.q k.p k.q (by decide)
theorem opMul {X Y T : Fr} (h : Bd X 100) (k : Bd Y 100) (hT : Fr.mul X Y = T) : Hid (Op2 27 X Y T) :=
  Lib.hid fun W A A' B B' n c m d n' c' m' d' xs ys xs' ys' a b a' b' => hT ▸ mulFr_any X.s Y.s A B A' B' n c m d n' c' m' d' X.p X.q Y.p Y.q 100 xs ys xs' ys' W a b a' b' h.p h.q k.p k.q (by decide) h.ok k.ok
theorem opNeg {X : Fr} (h : Bd X 100) : Hid (Op1 19 X (Fr.neg X)) :=
  Lib.hid fun W A B n c m d xs ys a b => negFr_any X.s A B n c m d X.p X.q 100 xs ys W a b h.p h.q (by decide)
theorem opValid {X : Fr} (h : Bd X 100) : Hid (OpV 6 X (.bool true)) :=
  Lib.hid fun _W _A _B _n _c _m _d _xs _ys a b => rvalid_big (s := X.s) a b h.ok h.p h.q (by decide)
theorem opZero : Hid (∀ W, Calls Tryz.prog 25 #[.int .i64 0] W (GivesFr Fr.zero W)) :=
  Lib.hid fun W => rfromInt_any 0 (by decide) (by decide) W false rfl
end Go.Proofs.YtebfnbnaheolgaaGreatDoor
