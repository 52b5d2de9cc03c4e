/- The walk of FractionMakes: no claim of its own. -/
import Derived.Test.YtgmjpkkpkdcncaaGreatDoorAwake
import Derived.Test.YtgmjpkkpkdcncaaGreatDoorRMake
import Derived.Deep.DeepCutAuto
namespace Go.Proofs.YtgmjpkkpkdcncaaGreatDoor
open Go.RowKit
theorem sameFr_b {s : Bool} {p q : Nat} {A B A' B' : Option Addr} {n c m d n' c' m' d' : Nat} {xs ys xs' ys' : List Nat} {w : World} (hx : Num w A n c xs p) (hy : Num w B m d ys q) (hx' : Num w A' n' c' xs' p) (hy' : Num w B' m' d' ys' q) :
    Calls Tryz.prog 14 #[.agg #[.bool s, .slice A n c, .slice B m d], .agg #[.bool s, .slice A' n' c', .slice B' m' d']] w (Gives (.bool true) w) :=
  sameFr_yes (t := ⟨s, p, q⟩) rfl rfl hx hy hx' hy'
set_option maxRecDepth 100000 in
set_option maxHeartbeats 4000000 in
theorem makes_a0 (a b : Int) (neg : Bool) (X Y : Option Addr) (lx cx ly cy : Nat) (w : World) (s : Bool) (p q : Nat) (s1 : Bool) (p1 : Nat)
    (f1 : ∀ w', Calls Tryz.prog 28 #[.int .i64 a, .int .i64 b] w' (GivesBE s p q 0 w'))
    (f2 : ∀ w', Calls Tryz.prog 29 #[.int .i64 a, .int .i64 b] w' (GivesBE s p q 0 w'))
    (f3 : ∀ w', Calls Tryz.prog 30 #[.int .i64 a] w' (GivesB s1 p1 1 w'))
    (f4 : ∀ w', Calls Tryz.prog 17 #[.int .i64 a] w' (GivesB s1 p1 1 w'))
    (h1 : 20 < lx) (h1' : lx ≤ 9223372036854775807) : Calls Tryz.prog 5 #[.int .i64 a, .int .i64 b, .bool neg, .slice X lx cx, .slice Y ly cy] w (Gives (.bool true) w) := by
  have J1 := Lib.hid f1
  have J2 := Lib.hid f2
  have J3 := Lib.hid f3
  have J4 := Lib.hid f4
  have J5 := Lib.hid awake2
  have B0 := Lib.hid (Below.refl w.heap.size w)
  clear f1 f2 f3 f4
  go_enter Tryz.func5, Tryz.ntmps5
  go_wp2_with fail
  refine (J1.out _).mono ?_
  rintro e w1 ⟨A1, n1, c1, x1, D1, m1, d1, y1, rfl, hN, hM, hb⟩
  have ba : Below w1.heap.size w1 (w1.alloc (.cells #[.bool s, .slice A1 n1 c1, .slice D1 m1 d1] 25)) := (Below.refl _ _).alloc (Nat.le_refl _) _
  have hf := FB.new w1 s A1 n1 c1 D1 m1 d1
  have P1 := Lib.hid (hN.keep ba)
  have Q1 := Lib.hid (hM.keep ba)
  have F1 := Lib.hid hf
  have B1 := Lib.hid ((B0.out.trans (hb.mono B0.out.size)).trans (ba.mono (Nat.le_trans B0.out.size hb.size)))
  clear hN hM hb ba hf B0 
  go_wp2_with fail
  obtain ⟨v1, hv⟩ : ∃ v, w1.alloc (.cells #[.bool s, .slice A1 n1 c1, .slice D1 m1 d1] 25) = v := ⟨_, rfl⟩
  obtain ⟨g1, hg⟩ : ∃ g, w1.heap.size = g := ⟨_, rfl⟩
  rw [hv, hg]
  rw [hv] at P1 Q1 F1 B1
  rw [hg] at F1
  clear hv hg
  refine (J2.out _).mono ?_
  rintro e w2 ⟨A2, n2, c2, x2, D2, m2, d2, y2, rfl, hN, hM, hb⟩
  have ba : Below w2.heap.size w2 (w2.alloc (.cells #[.bool s, .slice A2 n2 c2, .slice D2 m2 d2] 25)) := (Below.refl _ _).alloc (Nat.le_refl _) _
  have hf := FB.new w2 s A2 n2 c2 D2 m2 d2
  have R2 := Lib.hid (hN.keep ba)
  have S2 := Lib.hid (hM.keep ba)
  have G2 := Lib.hid hf
  have P2 := Lib.hid ((P1.out.keep hb).keep ba)
  have Q2 := Lib.hid ((Q1.out.keep hb).keep ba)
  have F2 := Lib.hid ((F1.out.keep hb).keep ba)
  have B2 := Lib.hid ((B1.out.trans (hb.mono B1.out.size)).trans (ba.mono (Nat.le_trans B1.out.size hb.size)))
  clear hN hM hb ba hf B1 P1 Q1 F1
  go_upto_region 3 with fail
  obtain ⟨v2, hv⟩ : ∃ v, w2.alloc (.cells #[.bool s, .slice A2 n2 c2, .slice D2 m2 d2] 25) = v := ⟨_, rfl⟩
  obtain ⟨g2, hg⟩ : ∃ g, w2.heap.size = g := ⟨_, rfl⟩
  rw [hv, hg]
  rw [hv] at P2 Q2 F2 R2 S2 G2 B2
  rw [hg] at G2
  clear hv hg
  have zB := B2.out
  have zP := P2.out
  have zQ := Q2.out
  have zR := R2.out
  have zS := S2.out
  have zF := F2.out
  have zG := G2.out
  clear P2 Q2 R2 S2 F2 G2 B2
  obtain ⟨Fa, Fb, Fc, _, _, _⟩ := zF.facts
  obtain ⟨Ga, Gb, Gc, _, _, _⟩ := zG.facts
  go_wp2_with fail
  refine (sameFr_b zP zQ zR zS).mono ?_
  rintro e wa ⟨rfl, hb⟩
  replace zP := zP.keep hb; replace zQ := zQ.keep hb; replace zR := zR.keep hb; replace zS := zS.keep hb; replace zF := zF.keep hb; replace zG := zG.keep hb; replace zB := zB.trans (hb.mono zB.size); clear hb
  go_wp2_with fail
  clear Fa Fb Fc Ga Gb Gc
  refine (J3.out _).mono ?_
  rintro e wb ⟨Aa, na, ca, xa, Da, ma, da, ya, rfl, hNa, hMa, hb⟩
  replace zP := zP.keep hb; replace zQ := zQ.keep hb; replace zR := zR.keep hb; replace zS := zS.keep hb; replace zF := zF.keep hb; replace zG := zG.keep hb; replace zB := zB.trans (hb.mono zB.size); clear hb
  go_wp2_with fail
  refine (J4.out _).mono ?_
  rintro e wc ⟨Ab, nb, cb, xb, Db, mb, db, yb, rfl, hNb, hMb, hb⟩
  replace zP := zP.keep hb; replace zQ := zQ.keep hb; replace zR := zR.keep hb; replace zS := zS.keep hb; replace zF := zF.keep hb; replace zG := zG.keep hb; replace hNa := hNa.keep hb; replace hMa := hMa.keep hb; replace zB := zB.trans (hb.mono zB.size); clear hb
  go_wp2_with fail
  refine (sameFr_b hNa hMa hNb hMb).mono ?_
  rintro e wd ⟨rfl, hb⟩
  have B3 := Lib.hid (zB.trans (hb.mono zB.size))
  clear hb zB zP zQ zR zS zF zG hNa hMa hNb hMb J1 J2 J3 J4
  go_wp2_with fail
  refine (J5.out _).mono ?_
  rintro e w9 ⟨rfl, hb⟩
  have B9 := Lib.hid (B3.out.trans (hb.mono B3.out.size))
  clear hb B3
  go_wp2
  go_ret
  exact ⟨rfl, B9.out⟩
set_option maxRecDepth 100000 in
set_option maxHeartbeats 4000000 in
theorem makes_b0 (a b : Int) (neg : Bool) (X Y : Option Addr) (lx cx ly cy : Nat) (w : World) (s : Bool) (p q : Nat) (s1 : Bool) (p1 : Nat)
    (f1 : ∀ w', Calls Tryz.prog 28 #[.int .i64 a, .int .i64 b] w' (GivesBE s p q 0 w'))
    (f2 : ∀ w', Calls Tryz.prog 29 #[.int .i64 a, .int .i64 b] w' (GivesBE s p q 0 w'))
    (f3 : ∀ w', Calls Tryz.prog 30 #[.int .i64 a] w' (GivesB s1 p1 1 w'))
    (f4 : ∀ w', Calls Tryz.prog 17 #[.int .i64 a] w' (GivesB s1 p1 1 w'))
    (h1 : lx ≤ 20) (h2 : 20 < ly) (h2' : ly ≤ 9223372036854775807) : Calls Tryz.prog 5 #[.int .i64 a, .int .i64 b, .bool neg, .slice X lx cx, .slice Y ly cy] w (Gives (.bool true) w) := by
  have J1 := Lib.hid f1
  have J2 := Lib.hid f2
  have J3 := Lib.hid f3
  have J4 := Lib.hid f4
  have J5 := Lib.hid awake2
  have B0 := Lib.hid (Below.refl w.heap.size w)
  clear f1 f2 f3 f4
  go_enter Tryz.func5, Tryz.ntmps5
  go_wp2_with fail
  refine (J1.out _).mono ?_
  rintro e w1 ⟨A1, n1, c1, x1, D1, m1, d1, y1, rfl, hN, hM, hb⟩
  have ba : Below w1.heap.size w1 (w1.alloc (.cells #[.bool s, .slice A1 n1 c1, .slice D1 m1 d1] 25)) := (Below.refl _ _).alloc (Nat.le_refl _) _
  have hf := FB.new w1 s A1 n1 c1 D1 m1 d1
  have P1 := Lib.hid (hN.keep ba)
  have Q1 := Lib.hid (hM.keep ba)
  have F1 := Lib.hid hf
  have B1 := Lib.hid ((B0.out.trans (hb.mono B0.out.size)).trans (ba.mono (Nat.le_trans B0.out.size hb.size)))
  clear hN hM hb ba hf B0 
  go_wp2_with fail
  obtain ⟨v1, hv⟩ : ∃ v, w1.alloc (.cells #[.bool s, .slice A1 n1 c1, .slice D1 m1 d1] 25) = v := ⟨_, rfl⟩
  obtain ⟨g1, hg⟩ : ∃ g, w1.heap.size = g := ⟨_, rfl⟩
  rw [hv, hg]
  rw [hv] at P1 Q1 F1 B1
  rw [hg] at F1
  clear hv hg
  refine (J2.out _).mono ?_
  rintro e w2 ⟨A2, n2, c2, x2, D2, m2, d2, y2, rfl, hN, hM, hb⟩
  have ba : Below w2.heap.size w2 (w2.alloc (.cells #[.bool s, .slice A2 n2 c2, .slice D2 m2 d2] 25)) := (Below.refl _ _).alloc (Nat.le_refl _) _
  have hf := FB.new w2 s A2 n2 c2 D2 m2 d2
  have R2 := Lib.hid (hN.keep ba)
  have S2 := Lib.hid (hM.keep ba)
  have G2 := Lib.hid hf
  have P2 := Lib.hid ((P1.out.keep hb).keep ba)
  have Q2 := Lib.hid ((Q1.out.keep hb).keep ba)
  have F2 := Lib.hid ((F1.out.keep hb).keep ba)
  have B2 := Lib.hid ((B1.out.trans (hb.mono B1.out.size)).trans (ba.mono (Nat.le_trans B1.out.size hb.size)))
  clear hN hM hb ba hf B1 P1 Q1 F1
  go_upto_region 3 with fail
  obtain ⟨v2, hv⟩ : ∃ v, w2.alloc (.cells #[.bool s, .slice A2 n2 c2, .slice D2 m2 d2] 25) = v := ⟨_, rfl⟩
  obtain ⟨g2, hg⟩ : ∃ g, w2.heap.size = g := ⟨_, rfl⟩
  rw [hv, hg]
  rw [hv] at P2 Q2 F2 R2 S2 G2 B2
  rw [hg] at G2
  clear hv hg
  have zB := B2.out
  have zP := P2.out
  have zQ := Q2.out
  have zR := R2.out
  have zS := S2.out
  have zF := F2.out
  have zG := G2.out
  clear P2 Q2 R2 S2 F2 G2 B2
  obtain ⟨Fa, Fb, Fc, _, _, _⟩ := zF.facts
  obtain ⟨Ga, Gb, Gc, _, _, _⟩ := zG.facts
  go_wp2_with fail
  refine (sameFr_b zP zQ zR zS).mono ?_
  rintro e wa ⟨rfl, hb⟩
  replace zP := zP.keep hb; replace zQ := zQ.keep hb; replace zR := zR.keep hb; replace zS := zS.keep hb; replace zF := zF.keep hb; replace zG := zG.keep hb; replace zB := zB.trans (hb.mono zB.size); clear hb
  go_wp2_with fail
  clear Fa Fb Fc Ga Gb Gc
  refine (J3.out _).mono ?_
  rintro e wb ⟨Aa, na, ca, xa, Da, ma, da, ya, rfl, hNa, hMa, hb⟩
  replace zP := zP.keep hb; replace zQ := zQ.keep hb; replace zR := zR.keep hb; replace zS := zS.keep hb; replace zF := zF.keep hb; replace zG := zG.keep hb; replace zB := zB.trans (hb.mono zB.size); clear hb
  go_wp2_with fail
  refine (J4.out _).mono ?_
  rintro e wc ⟨Ab, nb, cb, xb, Db, mb, db, yb, rfl, hNb, hMb, hb⟩
  replace zP := zP.keep hb; replace zQ := zQ.keep hb; replace zR := zR.keep hb; replace zS := zS.keep hb; replace zF := zF.keep hb; replace zG := zG.keep hb; replace hNa := hNa.keep hb; replace hMa := hMa.keep hb; replace zB := zB.trans (hb.mono zB.size); clear hb
  go_wp2_with fail
  refine (sameFr_b hNa hMa hNb hMb).mono ?_
  rintro e wd ⟨rfl, hb⟩
  have B3 := Lib.hid (zB.trans (hb.mono zB.size))
  clear hb zB zP zQ zR zS zF zG hNa hMa hNb hMb J1 J2 J3 J4
  go_wp2_with fail
  refine (J5.out _).mono ?_
  rintro e w9 ⟨rfl, hb⟩
  have B9 := Lib.hid (B3.out.trans (hb.mono B3.out.size))
  clear hb B3
  go_wp2
  go_ret
  exact ⟨rfl, B9.out⟩
set_option maxRecDepth 100000 in
set_option maxHeartbeats 4000000 in
theorem makes_c0 (a b : Int) (neg : Bool) (X Y : Option Addr) (lx cx ly cy : Nat) (w : World) (s : Bool) (p q : Nat) (s1 : Bool) (p1 : Nat)
    (f1 : ∀ w', Calls Tryz.prog 28 #[.int .i64 a, .int .i64 b] w' (GivesBE s p q 0 w'))
    (f2 : ∀ w', Calls Tryz.prog 29 #[.int .i64 a, .int .i64 b] w' (GivesBE s p q 0 w'))
    (f3 : ∀ w', Calls Tryz.prog 30 #[.int .i64 a] w' (GivesB s1 p1 1 w'))
    (f4 : ∀ w', Calls Tryz.prog 17 #[.int .i64 a] w' (GivesB s1 p1 1 w'))
    (h1 : lx ≤ 20) (h2 : ly ≤ 20) (k1 : ∀ w', Below w.heap.size w w' → Calls Tryz.prog 31 #[.slice X lx cx] w' fun e w'' => e = .returned (.bool false) ∧ w' = w'') : Calls Tryz.prog 5 #[.int .i64 a, .int .i64 b, .bool neg, .slice X lx cx, .slice Y ly cy] w (Gives (.bool true) w) := by
  have J1 := Lib.hid f1
  have J2 := Lib.hid f2
  have J3 := Lib.hid f3
  have J4 := Lib.hid f4
  have J5 := Lib.hid awake2
  have B0 := Lib.hid (Below.refl w.heap.size w)
  have K1 := Lib.hid k1
  clear k1
  clear f1 f2 f3 f4
  go_enter Tryz.func5, Tryz.ntmps5
  go_wp2_with fail
  refine (J1.out _).mono ?_
  rintro e w1 ⟨A1, n1, c1, x1, D1, m1, d1, y1, rfl, hN, hM, hb⟩
  have ba : Below w1.heap.size w1 (w1.alloc (.cells #[.bool s, .slice A1 n1 c1, .slice D1 m1 d1] 25)) := (Below.refl _ _).alloc (Nat.le_refl _) _
  have hf := FB.new w1 s A1 n1 c1 D1 m1 d1
  have P1 := Lib.hid (hN.keep ba)
  have Q1 := Lib.hid (hM.keep ba)
  have F1 := Lib.hid hf
  have B1 := Lib.hid ((B0.out.trans (hb.mono B0.out.size)).trans (ba.mono (Nat.le_trans B0.out.size hb.size)))
  clear hN hM hb ba hf B0 
  go_wp2_with fail
  obtain ⟨v1, hv⟩ : ∃ v, w1.alloc (.cells #[.bool s, .slice A1 n1 c1, .slice D1 m1 d1] 25) = v := ⟨_, rfl⟩
  obtain ⟨g1, hg⟩ : ∃ g, w1.heap.size = g := ⟨_, rfl⟩
  rw [hv, hg]
  rw [hv] at P1 Q1 F1 B1
  rw [hg] at F1
  clear hv hg
  refine (J2.out _).mono ?_
  rintro e w2 ⟨A2, n2, c2, x2, D2, m2, d2, y2, rfl, hN, hM, hb⟩
  have ba : Below w2.heap.size w2 (w2.alloc (.cells #[.bool s, .slice A2 n2 c2, .slice D2 m2 d2] 25)) := (Below.refl _ _).alloc (Nat.le_refl _) _
  have hf := FB.new w2 s A2 n2 c2 D2 m2 d2
  have R2 := Lib.hid (hN.keep ba)
  have S2 := Lib.hid (hM.keep ba)
  have G2 := Lib.hid hf
  have P2 := Lib.hid ((P1.out.keep hb).keep ba)
  have Q2 := Lib.hid ((Q1.out.keep hb).keep ba)
  have F2 := Lib.hid ((F1.out.keep hb).keep ba)
  have B2 := Lib.hid ((B1.out.trans (hb.mono B1.out.size)).trans (ba.mono (Nat.le_trans B1.out.size hb.size)))
  clear hN hM hb ba hf B1 P1 Q1 F1
  go_upto_region 3 with fail
  obtain ⟨v2, hv⟩ : ∃ v, w2.alloc (.cells #[.bool s, .slice A2 n2 c2, .slice D2 m2 d2] 25) = v := ⟨_, rfl⟩
  obtain ⟨g2, hg⟩ : ∃ g, w2.heap.size = g := ⟨_, rfl⟩
  rw [hv, hg]
  rw [hv] at P2 Q2 F2 R2 S2 G2 B2
  rw [hg] at G2
  clear hv hg
  have zB := B2.out
  have zP := P2.out
  have zQ := Q2.out
  have zR := R2.out
  have zS := S2.out
  have zF := F2.out
  have zG := G2.out
  clear P2 Q2 R2 S2 F2 G2 B2
  obtain ⟨Fa, Fb, Fc, _, _, _⟩ := zF.facts
  obtain ⟨Ga, Gb, Gc, _, _, _⟩ := zG.facts
  go_wp2_with fail
  refine (sameFr_b zP zQ zR zS).mono ?_
  rintro e wa ⟨rfl, hb⟩
  replace zP := zP.keep hb; replace zQ := zQ.keep hb; replace zR := zR.keep hb; replace zS := zS.keep hb; replace zF := zF.keep hb; replace zG := zG.keep hb; replace zB := zB.trans (hb.mono zB.size); clear hb
  go_wp2_with fail
  clear Fa Fb Fc Ga Gb Gc
  refine (J3.out _).mono ?_
  rintro e wb ⟨Aa, na, ca, xa, Da, ma, da, ya, rfl, hNa, hMa, hb⟩
  replace zP := zP.keep hb; replace zQ := zQ.keep hb; replace zR := zR.keep hb; replace zS := zS.keep hb; replace zF := zF.keep hb; replace zG := zG.keep hb; replace zB := zB.trans (hb.mono zB.size); clear hb
  go_wp2_with fail
  refine (J4.out _).mono ?_
  rintro e wc ⟨Ab, nb, cb, xb, Db, mb, db, yb, rfl, hNb, hMb, hb⟩
  replace zP := zP.keep hb; replace zQ := zQ.keep hb; replace zR := zR.keep hb; replace zS := zS.keep hb; replace zF := zF.keep hb; replace zG := zG.keep hb; replace hNa := hNa.keep hb; replace hMa := hMa.keep hb; replace zB := zB.trans (hb.mono zB.size); clear hb
  go_wp2_with fail
  refine (sameFr_b hNa hMa hNb hMb).mono ?_
  rintro e wd ⟨rfl, hb⟩
  have B3 := Lib.hid (zB.trans (hb.mono zB.size))
  clear hb zB zP zQ zR zS zF zG hNa hMa hNb hMb J1 J2 J3 J4
  go_wp2_with fail
  refine (K1.out _ B3.out).mono ?_
  rintro e w' ⟨rfl, rfl⟩
  go_wp2_with fail
  refine (J5.out _).mono ?_
  rintro e w9 ⟨rfl, hb⟩
  have B9 := Lib.hid (B3.out.trans (hb.mono B3.out.size))
  clear hb B3
  go_wp2
  go_ret
  exact ⟨rfl, B9.out⟩
set_option maxRecDepth 100000 in
set_option maxHeartbeats 4000000 in
theorem makes_d0 (a b : Int) (neg : Bool) (X Y : Option Addr) (lx cx ly cy : Nat) (w : World) (s : Bool) (p q : Nat) (s1 : Bool) (p1 : Nat)
    (f1 : ∀ w', Calls Tryz.prog 28 #[.int .i64 a, .int .i64 b] w' (GivesBE s p q 0 w'))
    (f2 : ∀ w', Calls Tryz.prog 29 #[.int .i64 a, .int .i64 b] w' (GivesBE s p q 0 w'))
    (f3 : ∀ w', Calls Tryz.prog 30 #[.int .i64 a] w' (GivesB s1 p1 1 w'))
    (f4 : ∀ w', Calls Tryz.prog 17 #[.int .i64 a] w' (GivesB s1 p1 1 w'))
    (h1 : lx ≤ 20) (h2 : ly ≤ 20) (k1 : ∀ w', Below w.heap.size w w' → Calls Tryz.prog 31 #[.slice X lx cx] w' fun e w'' => e = .returned (.bool true) ∧ w' = w'') (k2 : ∀ w', Below w.heap.size w w' → Calls Tryz.prog 31 #[.slice Y ly cy] w' fun e w'' => e = .returned (.bool false) ∧ w' = w'') : Calls Tryz.prog 5 #[.int .i64 a, .int .i64 b, .bool neg, .slice X lx cx, .slice Y ly cy] w (Gives (.bool true) w) := by
  have J1 := Lib.hid f1
  have J2 := Lib.hid f2
  have J3 := Lib.hid f3
  have J4 := Lib.hid f4
  have J5 := Lib.hid awake2
  have B0 := Lib.hid (Below.refl w.heap.size w)
  have K1 := Lib.hid k1
  have K2 := Lib.hid k2
  clear k1 k2
  clear f1 f2 f3 f4
  go_enter Tryz.func5, Tryz.ntmps5
  go_wp2_with fail
  refine (J1.out _).mono ?_
  rintro e w1 ⟨A1, n1, c1, x1, D1, m1, d1, y1, rfl, hN, hM, hb⟩
  have ba : Below w1.heap.size w1 (w1.alloc (.cells #[.bool s, .slice A1 n1 c1, .slice D1 m1 d1] 25)) := (Below.refl _ _).alloc (Nat.le_refl _) _
  have hf := FB.new w1 s A1 n1 c1 D1 m1 d1
  have P1 := Lib.hid (hN.keep ba)
  have Q1 := Lib.hid (hM.keep ba)
  have F1 := Lib.hid hf
  have B1 := Lib.hid ((B0.out.trans (hb.mono B0.out.size)).trans (ba.mono (Nat.le_trans B0.out.size hb.size)))
  clear hN hM hb ba hf B0 
  go_wp2_with fail
  obtain ⟨v1, hv⟩ : ∃ v, w1.alloc (.cells #[.bool s, .slice A1 n1 c1, .slice D1 m1 d1] 25) = v := ⟨_, rfl⟩
  obtain ⟨g1, hg⟩ : ∃ g, w1.heap.size = g := ⟨_, rfl⟩
  rw [hv, hg]
  rw [hv] at P1 Q1 F1 B1
  rw [hg] at F1
  clear hv hg
  refine (J2.out _).mono ?_
  rintro e w2 ⟨A2, n2, c2, x2, D2, m2, d2, y2, rfl, hN, hM, hb⟩
  have ba : Below w2.heap.size w2 (w2.alloc (.cells #[.bool s, .slice A2 n2 c2, .slice D2 m2 d2] 25)) := (Below.refl _ _).alloc (Nat.le_refl _) _
  have hf := FB.new w2 s A2 n2 c2 D2 m2 d2
  have R2 := Lib.hid (hN.keep ba)
  have S2 := Lib.hid (hM.keep ba)
  have G2 := Lib.hid hf
  have P2 := Lib.hid ((P1.out.keep hb).keep ba)
  have Q2 := Lib.hid ((Q1.out.keep hb).keep ba)
  have F2 := Lib.hid ((F1.out.keep hb).keep ba)
  have B2 := Lib.hid ((B1.out.trans (hb.mono B1.out.size)).trans (ba.mono (Nat.le_trans B1.out.size hb.size)))
  clear hN hM hb ba hf B1 P1 Q1 F1
  go_upto_region 3 with fail
  obtain ⟨v2, hv⟩ : ∃ v, w2.alloc (.cells #[.bool s, .slice A2 n2 c2, .slice D2 m2 d2] 25) = v := ⟨_, rfl⟩
  obtain ⟨g2, hg⟩ : ∃ g, w2.heap.size = g := ⟨_, rfl⟩
  rw [hv, hg]
  rw [hv] at P2 Q2 F2 R2 S2 G2 B2
  rw [hg] at G2
  clear hv hg
  have zB := B2.out
  have zP := P2.out
  have zQ := Q2.out
  have zR := R2.out
  have zS := S2.out
  have zF := F2.out
  have zG := G2.out
  clear P2 Q2 R2 S2 F2 G2 B2
  obtain ⟨Fa, Fb, Fc, _, _, _⟩ := zF.facts
  obtain ⟨Ga, Gb, Gc, _, _, _⟩ := zG.facts
  go_wp2_with fail
  refine (sameFr_b zP zQ zR zS).mono ?_
  rintro e wa ⟨rfl, hb⟩
  replace zP := zP.keep hb; replace zQ := zQ.keep hb; replace zR := zR.keep hb; replace zS := zS.keep hb; replace zF := zF.keep hb; replace zG := zG.keep hb; replace zB := zB.trans (hb.mono zB.size); clear hb
  go_wp2_with fail
  clear Fa Fb Fc Ga Gb Gc
  refine (J3.out _).mono ?_
  rintro e wb ⟨Aa, na, ca, xa, Da, ma, da, ya, rfl, hNa, hMa, hb⟩
  replace zP := zP.keep hb; replace zQ := zQ.keep hb; replace zR := zR.keep hb; replace zS := zS.keep hb; replace zF := zF.keep hb; replace zG := zG.keep hb; replace zB := zB.trans (hb.mono zB.size); clear hb
  go_wp2_with fail
  refine (J4.out _).mono ?_
  rintro e wc ⟨Ab, nb, cb, xb, Db, mb, db, yb, rfl, hNb, hMb, hb⟩
  replace zP := zP.keep hb; replace zQ := zQ.keep hb; replace zR := zR.keep hb; replace zS := zS.keep hb; replace zF := zF.keep hb; replace zG := zG.keep hb; replace hNa := hNa.keep hb; replace hMa := hMa.keep hb; replace zB := zB.trans (hb.mono zB.size); clear hb
  go_wp2_with fail
  refine (sameFr_b hNa hMa hNb hMb).mono ?_
  rintro e wd ⟨rfl, hb⟩
  have B3 := Lib.hid (zB.trans (hb.mono zB.size))
  clear hb zB zP zQ zR zS zF zG hNa hMa hNb hMb J1 J2 J3 J4
  go_wp2_with fail
  refine (K1.out _ B3.out).mono ?_
  rintro e w' ⟨rfl, rfl⟩
  go_wp2_with fail
  refine (K2.out _ B3.out).mono ?_
  rintro e w' ⟨rfl, rfl⟩
  go_wp2_with fail
  refine (J5.out _).mono ?_
  rintro e w9 ⟨rfl, hb⟩
  have B9 := Lib.hid (B3.out.trans (hb.mono B3.out.size))
  clear hb B3
  go_wp2
  go_ret
  exact ⟨rfl, B9.out⟩
set_option maxRecDepth 100000 in
set_option maxHeartbeats 4000000 in
theorem makes_e00 (a b : Int) (neg : Bool) (X Y : Option Addr) (lx cx ly cy : Nat) (w : World) (s : Bool) (p q : Nat) (s1 : Bool) (p1 : Nat)
    (f1 : ∀ w', Calls Tryz.prog 28 #[.int .i64 a, .int .i64 b] w' (GivesBE s p q 0 w'))
    (f2 : ∀ w', Calls Tryz.prog 29 #[.int .i64 a, .int .i64 b] w' (GivesBE s p q 0 w'))
    (f3 : ∀ w', Calls Tryz.prog 30 #[.int .i64 a] w' (GivesB s1 p1 1 w'))
    (f4 : ∀ w', Calls Tryz.prog 17 #[.int .i64 a] w' (GivesB s1 p1 1 w'))
    (h1 : lx ≤ 20) (h2 : ly ≤ 20) (k1 : ∀ w', Below w.heap.size w w' → Calls Tryz.prog 31 #[.slice X lx cx] w' fun e w'' => e = .returned (.bool true) ∧ w' = w'') (k2 : ∀ w', Below w.heap.size w w' → Calls Tryz.prog 31 #[.slice Y ly cy] w' fun e w'' => e = .returned (.bool true) ∧ w' = w'') (s2 : Bool) (p2 q2 : Nat) (m1 : ∀ w', Below w.heap.size w w' → Calls Tryz.prog 32 #[.bool neg, .slice X lx cx, .slice Y ly cy] w' (GivesBE s2 p2 q2 0 w')) (m2 : ∀ w', Below w.heap.size w w' → Calls Tryz.prog 33 #[.bool neg, .slice X lx cx, .slice Y ly cy] w' (GivesBE s2 p2 q2 0 w')) : Calls Tryz.prog 5 #[.int .i64 a, .int .i64 b, .bool neg, .slice X lx cx, .slice Y ly cy] w (Gives (.bool true) w) := by
  have J1 := Lib.hid f1
  have J2 := Lib.hid f2
  have J3 := Lib.hid f3
  have J4 := Lib.hid f4
  have J5 := Lib.hid awake2
  have B0 := Lib.hid (Below.refl w.heap.size w)
  have K1 := Lib.hid k1
  have K2 := Lib.hid k2
  have M1 := Lib.hid m1
  have M2 := Lib.hid m2
  clear k1 k2 m1 m2
  clear f1 f2 f3 f4
  go_enter Tryz.func5, Tryz.ntmps5
  go_wp2_with fail
  refine (J1.out _).mono ?_
  rintro e w1 ⟨A1, n1, c1, x1, D1, m1, d1, y1, rfl, hN, hM, hb⟩
  have ba : Below w1.heap.size w1 (w1.alloc (.cells #[.bool s, .slice A1 n1 c1, .slice D1 m1 d1] 25)) := (Below.refl _ _).alloc (Nat.le_refl _) _
  have hf := FB.new w1 s A1 n1 c1 D1 m1 d1
  have P1 := Lib.hid (hN.keep ba)
  have Q1 := Lib.hid (hM.keep ba)
  have F1 := Lib.hid hf
  have B1 := Lib.hid ((B0.out.trans (hb.mono B0.out.size)).trans (ba.mono (Nat.le_trans B0.out.size hb.size)))
  clear hN hM hb ba hf B0 
  go_wp2_with fail
  obtain ⟨v1, hv⟩ : ∃ v, w1.alloc (.cells #[.bool s, .slice A1 n1 c1, .slice D1 m1 d1] 25) = v := ⟨_, rfl⟩
  obtain ⟨g1, hg⟩ : ∃ g, w1.heap.size = g := ⟨_, rfl⟩
  rw [hv, hg]
  rw [hv] at P1 Q1 F1 B1
  rw [hg] at F1
  clear hv hg
  refine (J2.out _).mono ?_
  rintro e w2 ⟨A2, n2, c2, x2, D2, m2, d2, y2, rfl, hN, hM, hb⟩
  have ba : Below w2.heap.size w2 (w2.alloc (.cells #[.bool s, .slice A2 n2 c2, .slice D2 m2 d2] 25)) := (Below.refl _ _).alloc (Nat.le_refl _) _
  have hf := FB.new w2 s A2 n2 c2 D2 m2 d2
  have R2 := Lib.hid (hN.keep ba)
  have S2 := Lib.hid (hM.keep ba)
  have G2 := Lib.hid hf
  have P2 := Lib.hid ((P1.out.keep hb).keep ba)
  have Q2 := Lib.hid ((Q1.out.keep hb).keep ba)
  have F2 := Lib.hid ((F1.out.keep hb).keep ba)
  have B2 := Lib.hid ((B1.out.trans (hb.mono B1.out.size)).trans (ba.mono (Nat.le_trans B1.out.size hb.size)))
  clear hN hM hb ba hf B1 P1 Q1 F1
  go_upto_region 3 with fail
  obtain ⟨v2, hv⟩ : ∃ v, w2.alloc (.cells #[.bool s, .slice A2 n2 c2, .slice D2 m2 d2] 25) = v := ⟨_, rfl⟩
  obtain ⟨g2, hg⟩ : ∃ g, w2.heap.size = g := ⟨_, rfl⟩
  rw [hv, hg]
  rw [hv] at P2 Q2 F2 R2 S2 G2 B2
  rw [hg] at G2
  clear hv hg
  have zB := B2.out
  have zP := P2.out
  have zQ := Q2.out
  have zR := R2.out
  have zS := S2.out
  have zF := F2.out
  have zG := G2.out
  clear P2 Q2 R2 S2 F2 G2 B2
  obtain ⟨Fa, Fb, Fc, _, _, _⟩ := zF.facts
  obtain ⟨Ga, Gb, Gc, _, _, _⟩ := zG.facts
  go_wp2_with fail
  refine (sameFr_b zP zQ zR zS).mono ?_
  rintro e wa ⟨rfl, hb⟩
  replace zP := zP.keep hb; replace zQ := zQ.keep hb; replace zR := zR.keep hb; replace zS := zS.keep hb; replace zF := zF.keep hb; replace zG := zG.keep hb; replace zB := zB.trans (hb.mono zB.size); clear hb
  go_wp2_with fail
  clear Fa Fb Fc Ga Gb Gc
  refine (J3.out _).mono ?_
  rintro e wb ⟨Aa, na, ca, xa, Da, ma, da, ya, rfl, hNa, hMa, hb⟩
  replace zP := zP.keep hb; replace zQ := zQ.keep hb; replace zR := zR.keep hb; replace zS := zS.keep hb; replace zF := zF.keep hb; replace zG := zG.keep hb; replace zB := zB.trans (hb.mono zB.size); clear hb
  go_wp2_with fail
  refine (J4.out _).mono ?_
  rintro e wc ⟨Ab, nb, cb, xb, Db, mb, db, yb, rfl, hNb, hMb, hb⟩
  replace zP := zP.keep hb; replace zQ := zQ.keep hb; replace zR := zR.keep hb; replace zS := zS.keep hb; replace zF := zF.keep hb; replace zG := zG.keep hb; replace hNa := hNa.keep hb; replace hMa := hMa.keep hb; replace zB := zB.trans (hb.mono zB.size); clear hb
  go_wp2_with fail
  refine (sameFr_b hNa hMa hNb hMb).mono ?_
  rintro e wd ⟨rfl, hb⟩
  have B3 := Lib.hid (zB.trans (hb.mono zB.size))
  clear hb zB zP zQ zR zS zF zG hNa hMa hNb hMb J1 J2 J3 J4
  go_wp2_with fail
  refine (K1.out _ B3.out).mono ?_
  rintro e w' ⟨rfl, rfl⟩
  go_wp2_with fail
  refine (K2.out _ B3.out).mono ?_
  rintro e w' ⟨rfl, rfl⟩
  go_wp2_with fail
  refine (M1.out _ B3.out).mono ?_
  rintro e w4 ⟨A4, n4, c4, x4, D4, m4, d4, y4, rfl, hN, hM, hb⟩
  have ba : Below w4.heap.size w4 (w4.alloc (.cells #[.bool s2, .slice A4 n4 c4, .slice D4 m4 d4] 25)) := (Below.refl _ _).alloc (Nat.le_refl _) _
  have hf := FB.new w4 s2 A4 n4 c4 D4 m4 d4
  have P4 := Lib.hid (hN.keep ba)
  have Q4 := Lib.hid (hM.keep ba)
  have F4 := Lib.hid hf
  have B4 := Lib.hid ((B3.out.trans (hb.mono B3.out.size)).trans (ba.mono (Nat.le_trans B3.out.size hb.size)))
  clear hN hM hb ba hf B3 
  go_wp2_with fail
  obtain ⟨v4, hv⟩ : ∃ v, w4.alloc (.cells #[.bool s2, .slice A4 n4 c4, .slice D4 m4 d4] 25) = v := ⟨_, rfl⟩
  obtain ⟨g4, hg⟩ : ∃ g, w4.heap.size = g := ⟨_, rfl⟩
  rw [hv, hg]
  rw [hv] at P4 Q4 F4 B4
  rw [hg] at F4
  clear hv hg
  refine (M2.out _ B4.out).mono ?_
  rintro e w5 ⟨A5, n5, c5, x5, D5, m5, d5, y5, rfl, hN, hM, hb⟩
  have ba : Below w5.heap.size w5 (w5.alloc (.cells #[.bool s2, .slice A5 n5 c5, .slice D5 m5 d5] 25)) := (Below.refl _ _).alloc (Nat.le_refl _) _
  have hf := FB.new w5 s2 A5 n5 c5 D5 m5 d5
  have R5 := Lib.hid (hN.keep ba)
  have S5 := Lib.hid (hM.keep ba)
  have G5 := Lib.hid hf
  have P5 := Lib.hid ((P4.out.keep hb).keep ba)
  have Q5 := Lib.hid ((Q4.out.keep hb).keep ba)
  have F5 := Lib.hid ((F4.out.keep hb).keep ba)
  have B5 := Lib.hid ((B4.out.trans (hb.mono B4.out.size)).trans (ba.mono (Nat.le_trans B4.out.size hb.size)))
  clear hN hM hb ba hf B4 P4 Q4 F4
  go_upto_region 9 with fail
  obtain ⟨v5, hv⟩ : ∃ v, w5.alloc (.cells #[.bool s2, .slice A5 n5 c5, .slice D5 m5 d5] 25) = v := ⟨_, rfl⟩
  obtain ⟨g5, hg⟩ : ∃ g, w5.heap.size = g := ⟨_, rfl⟩
  rw [hv, hg]
  rw [hv] at P5 Q5 F5 R5 S5 G5 B5
  rw [hg] at G5
  clear hv hg
  obtain ⟨Fa, Fb, Fc, _, _, _⟩ := F5.out.facts
  obtain ⟨Ga, Gb, Gc, _, _, _⟩ := G5.out.facts
  go_wp2_with fail
  refine (sameFr_b P5.out Q5.out R5.out S5.out).mono ?_
  rintro e wa ⟨rfl, hb⟩
  have B3 := Lib.hid (B5.out.trans (hb.mono B5.out.size))
  clear hb B5 P5 Q5 R5 S5 F5 G5 Fa Fb Fc Ga Gb Gc
  go_wp2_with fail
  refine (J5.out _).mono ?_
  rintro e w9 ⟨rfl, hb⟩
  have B9 := Lib.hid (B3.out.trans (hb.mono B3.out.size))
  clear hb B3
  go_wp2
  go_ret
  exact ⟨rfl, B9.out⟩
set_option maxRecDepth 100000 in
set_option maxHeartbeats 4000000 in
theorem makes_e08 (a b : Int) (neg : Bool) (X Y : Option Addr) (lx cx ly cy : Nat) (w : World) (s : Bool) (p q : Nat) (s1 : Bool) (p1 : Nat)
    (f1 : ∀ w', Calls Tryz.prog 28 #[.int .i64 a, .int .i64 b] w' (GivesBE s p q 0 w'))
    (f2 : ∀ w', Calls Tryz.prog 29 #[.int .i64 a, .int .i64 b] w' (GivesBE s p q 0 w'))
    (f3 : ∀ w', Calls Tryz.prog 30 #[.int .i64 a] w' (GivesB s1 p1 1 w'))
    (f4 : ∀ w', Calls Tryz.prog 17 #[.int .i64 a] w' (GivesB s1 p1 1 w'))
    (h1 : lx ≤ 20) (h2 : ly ≤ 20) (k1 : ∀ w', Below w.heap.size w w' → Calls Tryz.prog 31 #[.slice X lx cx] w' fun e w'' => e = .returned (.bool true) ∧ w' = w'') (k2 : ∀ w', Below w.heap.size w w' → Calls Tryz.prog 31 #[.slice Y ly cy] w' fun e w'' => e = .returned (.bool true) ∧ w' = w'') (s2 : Bool) (p2 q2 : Nat) (m1 : ∀ w', Below w.heap.size w w' → Calls Tryz.prog 32 #[.bool neg, .slice X lx cx, .slice Y ly cy] w' (GivesBE s2 p2 q2 8 w')) (m2 : ∀ w', Below w.heap.size w w' → Calls Tryz.prog 33 #[.bool neg, .slice X lx cx, .slice Y ly cy] w' (GivesBE s2 p2 q2 8 w')) : Calls Tryz.prog 5 #[.int .i64 a, .int .i64 b, .bool neg, .slice X lx cx, .slice Y ly cy] w (Gives (.bool true) w) := by
  have J1 := Lib.hid f1
  have J2 := Lib.hid f2
  have J3 := Lib.hid f3
  have J4 := Lib.hid f4
  have J5 := Lib.hid awake2
  have B0 := Lib.hid (Below.refl w.heap.size w)
  have K1 := Lib.hid k1
  have K2 := Lib.hid k2
  have M1 := Lib.hid m1
  have M2 := Lib.hid m2
  clear k1 k2 m1 m2
  clear f1 f2 f3 f4
  go_enter Tryz.func5, Tryz.ntmps5
  go_wp2_with fail
  refine (J1.out _).mono ?_
  rintro e w1 ⟨A1, n1, c1, x1, D1, m1, d1, y1, rfl, hN, hM, hb⟩
  have ba : Below w1.heap.size w1 (w1.alloc (.cells #[.bool s, .slice A1 n1 c1, .slice D1 m1 d1] 25)) := (Below.refl _ _).alloc (Nat.le_refl _) _
  have hf := FB.new w1 s A1 n1 c1 D1 m1 d1
  have P1 := Lib.hid (hN.keep ba)
  have Q1 := Lib.hid (hM.keep ba)
  have F1 := Lib.hid hf
  have B1 := Lib.hid ((B0.out.trans (hb.mono B0.out.size)).trans (ba.mono (Nat.le_trans B0.out.size hb.size)))
  clear hN hM hb ba hf B0 
  go_wp2_with fail
  obtain ⟨v1, hv⟩ : ∃ v, w1.alloc (.cells #[.bool s, .slice A1 n1 c1, .slice D1 m1 d1] 25) = v := ⟨_, rfl⟩
  obtain ⟨g1, hg⟩ : ∃ g, w1.heap.size = g := ⟨_, rfl⟩
  rw [hv, hg]
  rw [hv] at P1 Q1 F1 B1
  rw [hg] at F1
  clear hv hg
  refine (J2.out _).mono ?_
  rintro e w2 ⟨A2, n2, c2, x2, D2, m2, d2, y2, rfl, hN, hM, hb⟩
  have ba : Below w2.heap.size w2 (w2.alloc (.cells #[.bool s, .slice A2 n2 c2, .slice D2 m2 d2] 25)) := (Below.refl _ _).alloc (Nat.le_refl _) _
  have hf := FB.new w2 s A2 n2 c2 D2 m2 d2
  have R2 := Lib.hid (hN.keep ba)
  have S2 := Lib.hid (hM.keep ba)
  have G2 := Lib.hid hf
  have P2 := Lib.hid ((P1.out.keep hb).keep ba)
  have Q2 := Lib.hid ((Q1.out.keep hb).keep ba)
  have F2 := Lib.hid ((F1.out.keep hb).keep ba)
  have B2 := Lib.hid ((B1.out.trans (hb.mono B1.out.size)).trans (ba.mono (Nat.le_trans B1.out.size hb.size)))
  clear hN hM hb ba hf B1 P1 Q1 F1
  go_upto_region 3 with fail
  obtain ⟨v2, hv⟩ : ∃ v, w2.alloc (.cells #[.bool s, .slice A2 n2 c2, .slice D2 m2 d2] 25) = v := ⟨_, rfl⟩
  obtain ⟨g2, hg⟩ : ∃ g, w2.heap.size = g := ⟨_, rfl⟩
  rw [hv, hg]
  rw [hv] at P2 Q2 F2 R2 S2 G2 B2
  rw [hg] at G2
  clear hv hg
  have zB := B2.out
  have zP := P2.out
  have zQ := Q2.out
  have zR := R2.out
  have zS := S2.out
  have zF := F2.out
  have zG := G2.out
  clear P2 Q2 R2 S2 F2 G2 B2
  obtain ⟨Fa, Fb, Fc, _, _, _⟩ := zF.facts
  obtain ⟨Ga, Gb, Gc, _, _, _⟩ := zG.facts
  go_wp2_with fail
  refine (sameFr_b zP zQ zR zS).mono ?_
  rintro e wa ⟨rfl, hb⟩
  replace zP := zP.keep hb; replace zQ := zQ.keep hb; replace zR := zR.keep hb; replace zS := zS.keep hb; replace zF := zF.keep hb; replace zG := zG.keep hb; replace zB := zB.trans (hb.mono zB.size); clear hb
  go_wp2_with fail
  clear Fa Fb Fc Ga Gb Gc
  refine (J3.out _).mono ?_
  rintro e wb ⟨Aa, na, ca, xa, Da, ma, da, ya, rfl, hNa, hMa, hb⟩
  replace zP := zP.keep hb; replace zQ := zQ.keep hb; replace zR := zR.keep hb; replace zS := zS.keep hb; replace zF := zF.keep hb; replace zG := zG.keep hb; replace zB := zB.trans (hb.mono zB.size); clear hb
  go_wp2_with fail
  refine (J4.out _).mono ?_
  rintro e wc ⟨Ab, nb, cb, xb, Db, mb, db, yb, rfl, hNb, hMb, hb⟩
  replace zP := zP.keep hb; replace zQ := zQ.keep hb; replace zR := zR.keep hb; replace zS := zS.keep hb; replace zF := zF.keep hb; replace zG := zG.keep hb; replace hNa := hNa.keep hb; replace hMa := hMa.keep hb; replace zB := zB.trans (hb.mono zB.size); clear hb
  go_wp2_with fail
  refine (sameFr_b hNa hMa hNb hMb).mono ?_
  rintro e wd ⟨rfl, hb⟩
  have B3 := Lib.hid (zB.trans (hb.mono zB.size))
  clear hb zB zP zQ zR zS zF zG hNa hMa hNb hMb J1 J2 J3 J4
  go_wp2_with fail
  refine (K1.out _ B3.out).mono ?_
  rintro e w' ⟨rfl, rfl⟩
  go_wp2_with fail
  refine (K2.out _ B3.out).mono ?_
  rintro e w' ⟨rfl, rfl⟩
  go_wp2_with fail
  refine (M1.out _ B3.out).mono ?_
  rintro e w4 ⟨A4, n4, c4, x4, D4, m4, d4, y4, rfl, hN, hM, hb⟩
  have ba : Below w4.heap.size w4 (w4.alloc (.cells #[.bool s2, .slice A4 n4 c4, .slice D4 m4 d4] 25)) := (Below.refl _ _).alloc (Nat.le_refl _) _
  have hf := FB.new w4 s2 A4 n4 c4 D4 m4 d4
  have P4 := Lib.hid (hN.keep ba)
  have Q4 := Lib.hid (hM.keep ba)
  have F4 := Lib.hid hf
  have B4 := Lib.hid ((B3.out.trans (hb.mono B3.out.size)).trans (ba.mono (Nat.le_trans B3.out.size hb.size)))
  clear hN hM hb ba hf B3 
  go_wp2_with fail
  obtain ⟨v4, hv⟩ : ∃ v, w4.alloc (.cells #[.bool s2, .slice A4 n4 c4, .slice D4 m4 d4] 25) = v := ⟨_, rfl⟩
  obtain ⟨g4, hg⟩ : ∃ g, w4.heap.size = g := ⟨_, rfl⟩
  rw [hv, hg]
  rw [hv] at P4 Q4 F4 B4
  rw [hg] at F4
  clear hv hg
  refine (M2.out _ B4.out).mono ?_
  rintro e w5 ⟨A5, n5, c5, x5, D5, m5, d5, y5, rfl, hN, hM, hb⟩
  have ba : Below w5.heap.size w5 (w5.alloc (.cells #[.bool s2, .slice A5 n5 c5, .slice D5 m5 d5] 25)) := (Below.refl _ _).alloc (Nat.le_refl _) _
  have hf := FB.new w5 s2 A5 n5 c5 D5 m5 d5
  have R5 := Lib.hid (hN.keep ba)
  have S5 := Lib.hid (hM.keep ba)
  have G5 := Lib.hid hf
  have P5 := Lib.hid ((P4.out.keep hb).keep ba)
  have Q5 := Lib.hid ((Q4.out.keep hb).keep ba)
  have F5 := Lib.hid ((F4.out.keep hb).keep ba)
  have B5 := Lib.hid ((B4.out.trans (hb.mono B4.out.size)).trans (ba.mono (Nat.le_trans B4.out.size hb.size)))
  clear hN hM hb ba hf B4 P4 Q4 F4
  go_upto_region 9 with fail
  obtain ⟨v5, hv⟩ : ∃ v, w5.alloc (.cells #[.bool s2, .slice A5 n5 c5, .slice D5 m5 d5] 25) = v := ⟨_, rfl⟩
  obtain ⟨g5, hg⟩ : ∃ g, w5.heap.size = g := ⟨_, rfl⟩
  rw [hv, hg]
  rw [hv] at P5 Q5 F5 R5 S5 G5 B5
  rw [hg] at G5
  clear hv hg
  obtain ⟨Fa, Fb, Fc, _, _, _⟩ := F5.out.facts
  obtain ⟨Ga, Gb, Gc, _, _, _⟩ := G5.out.facts
  go_wp2_with fail
  have B3 := B5
  clear B5 P5 Q5 R5 S5 F5 G5 Fa Fb Fc Ga Gb Gc
  refine (J5.out _).mono ?_
  rintro e w9 ⟨rfl, hb⟩
  have B9 := Lib.hid (B3.out.trans (hb.mono B3.out.size))
  clear hb B3
  go_wp2
  go_ret
  exact ⟨rfl, B9.out⟩
set_option maxRecDepth 100000 in
set_option maxHeartbeats 4000000 in
theorem makes_a8 (a b : Int) (neg : Bool) (X Y : Option Addr) (lx cx ly cy : Nat) (w : World) (s : Bool) (p q : Nat) (s1 : Bool) (p1 : Nat)
    (f1 : ∀ w', Calls Tryz.prog 28 #[.int .i64 a, .int .i64 b] w' (GivesBE s p q 8 w'))
    (f2 : ∀ w', Calls Tryz.prog 29 #[.int .i64 a, .int .i64 b] w' (GivesBE s p q 8 w'))
    (f3 : ∀ w', Calls Tryz.prog 30 #[.int .i64 a] w' (GivesB s1 p1 1 w'))
    (f4 : ∀ w', Calls Tryz.prog 17 #[.int .i64 a] w' (GivesB s1 p1 1 w'))
    (h1 : 20 < lx) (h1' : lx ≤ 9223372036854775807) : Calls Tryz.prog 5 #[.int .i64 a, .int .i64 b, .bool neg, .slice X lx cx, .slice Y ly cy] w (Gives (.bool true) w) := by
  have J1 := Lib.hid f1
  have J2 := Lib.hid f2
  have J3 := Lib.hid f3
  have J4 := Lib.hid f4
  have J5 := Lib.hid awake2
  have B0 := Lib.hid (Below.refl w.heap.size w)
  clear f1 f2 f3 f4
  go_enter Tryz.func5, Tryz.ntmps5
  go_wp2_with fail
  refine (J1.out _).mono ?_
  rintro e w1 ⟨A1, n1, c1, x1, D1, m1, d1, y1, rfl, hN, hM, hb⟩
  have ba : Below w1.heap.size w1 (w1.alloc (.cells #[.bool s, .slice A1 n1 c1, .slice D1 m1 d1] 25)) := (Below.refl _ _).alloc (Nat.le_refl _) _
  have hf := FB.new w1 s A1 n1 c1 D1 m1 d1
  have P1 := Lib.hid (hN.keep ba)
  have Q1 := Lib.hid (hM.keep ba)
  have F1 := Lib.hid hf
  have B1 := Lib.hid ((B0.out.trans (hb.mono B0.out.size)).trans (ba.mono (Nat.le_trans B0.out.size hb.size)))
  clear hN hM hb ba hf B0 
  go_wp2_with fail
  obtain ⟨v1, hv⟩ : ∃ v, w1.alloc (.cells #[.bool s, .slice A1 n1 c1, .slice D1 m1 d1] 25) = v := ⟨_, rfl⟩
  obtain ⟨g1, hg⟩ : ∃ g, w1.heap.size = g := ⟨_, rfl⟩
  rw [hv, hg]
  rw [hv] at P1 Q1 F1 B1
  rw [hg] at F1
  clear hv hg
  refine (J2.out _).mono ?_
  rintro e w2 ⟨A2, n2, c2, x2, D2, m2, d2, y2, rfl, hN, hM, hb⟩
  have ba : Below w2.heap.size w2 (w2.alloc (.cells #[.bool s, .slice A2 n2 c2, .slice D2 m2 d2] 25)) := (Below.refl _ _).alloc (Nat.le_refl _) _
  have hf := FB.new w2 s A2 n2 c2 D2 m2 d2
  have R2 := Lib.hid (hN.keep ba)
  have S2 := Lib.hid (hM.keep ba)
  have G2 := Lib.hid hf
  have P2 := Lib.hid ((P1.out.keep hb).keep ba)
  have Q2 := Lib.hid ((Q1.out.keep hb).keep ba)
  have F2 := Lib.hid ((F1.out.keep hb).keep ba)
  have B2 := Lib.hid ((B1.out.trans (hb.mono B1.out.size)).trans (ba.mono (Nat.le_trans B1.out.size hb.size)))
  clear hN hM hb ba hf B1 P1 Q1 F1
  go_upto_region 3 with fail
  obtain ⟨v2, hv⟩ : ∃ v, w2.alloc (.cells #[.bool s, .slice A2 n2 c2, .slice D2 m2 d2] 25) = v := ⟨_, rfl⟩
  obtain ⟨g2, hg⟩ : ∃ g, w2.heap.size = g := ⟨_, rfl⟩
  rw [hv, hg]
  rw [hv] at P2 Q2 F2 R2 S2 G2 B2
  rw [hg] at G2
  clear hv hg
  have zB := B2.out
  have zP := P2.out
  have zQ := Q2.out
  have zR := R2.out
  have zS := S2.out
  have zF := F2.out
  have zG := G2.out
  clear P2 Q2 R2 S2 F2 G2 B2
  obtain ⟨Fa, Fb, Fc, _, _, _⟩ := zF.facts
  obtain ⟨Ga, Gb, Gc, _, _, _⟩ := zG.facts
  go_wp2_with fail
  clear Fa Fb Fc Ga Gb Gc
  refine (J3.out _).mono ?_
  rintro e wb ⟨Aa, na, ca, xa, Da, ma, da, ya, rfl, hNa, hMa, hb⟩
  replace zP := zP.keep hb; replace zQ := zQ.keep hb; replace zR := zR.keep hb; replace zS := zS.keep hb; replace zF := zF.keep hb; replace zG := zG.keep hb; replace zB := zB.trans (hb.mono zB.size); clear hb
  go_wp2_with fail
  refine (J4.out _).mono ?_
  rintro e wc ⟨Ab, nb, cb, xb, Db, mb, db, yb, rfl, hNb, hMb, hb⟩
  replace zP := zP.keep hb; replace zQ := zQ.keep hb; replace zR := zR.keep hb; replace zS := zS.keep hb; replace zF := zF.keep hb; replace zG := zG.keep hb; replace hNa := hNa.keep hb; replace hMa := hMa.keep hb; replace zB := zB.trans (hb.mono zB.size); clear hb
  go_wp2_with fail
  refine (sameFr_b hNa hMa hNb hMb).mono ?_
  rintro e wd ⟨rfl, hb⟩
  have B3 := Lib.hid (zB.trans (hb.mono zB.size))
  clear hb zB zP zQ zR zS zF zG hNa hMa hNb hMb J1 J2 J3 J4
  go_wp2_with fail
  refine (J5.out _).mono ?_
  rintro e w9 ⟨rfl, hb⟩
  have B9 := Lib.hid (B3.out.trans (hb.mono B3.out.size))
  clear hb B3
  go_wp2
  go_ret
  exact ⟨rfl, B9.out⟩
set_option maxRecDepth 100000 in
set_option maxHeartbeats 4000000 in
theorem makes_b8 (a b : Int) (neg : Bool) (X Y : Option Addr) (lx cx ly cy : Nat) (w : World) (s : Bool) (p q : Nat) (s1 : Bool) (p1 : Nat)
    (f1 : ∀ w', Calls Tryz.prog 28 #[.int .i64 a, .int .i64 b] w' (GivesBE s p q 8 w'))
    (f2 : ∀ w', Calls Tryz.prog 29 #[.int .i64 a, .int .i64 b] w' (GivesBE s p q 8 w'))
    (f3 : ∀ w', Calls Tryz.prog 30 #[.int .i64 a] w' (GivesB s1 p1 1 w'))
    (f4 : ∀ w', Calls Tryz.prog 17 #[.int .i64 a] w' (GivesB s1 p1 1 w'))
    (h1 : lx ≤ 20) (h2 : 20 < ly) (h2' : ly ≤ 9223372036854775807) : Calls Tryz.prog 5 #[.int .i64 a, .int .i64 b, .bool neg, .slice X lx cx, .slice Y ly cy] w (Gives (.bool true) w) := by
  have J1 := Lib.hid f1
  have J2 := Lib.hid f2
  have J3 := Lib.hid f3
  have J4 := Lib.hid f4
  have J5 := Lib.hid awake2
  have B0 := Lib.hid (Below.refl w.heap.size w)
  clear f1 f2 f3 f4
  go_enter Tryz.func5, Tryz.ntmps5
  go_wp2_with fail
  refine (J1.out _).mono ?_
  rintro e w1 ⟨A1, n1, c1, x1, D1, m1, d1, y1, rfl, hN, hM, hb⟩
  have ba : Below w1.heap.size w1 (w1.alloc (.cells #[.bool s, .slice A1 n1 c1, .slice D1 m1 d1] 25)) := (Below.refl _ _).alloc (Nat.le_refl _) _
  have hf := FB.new w1 s A1 n1 c1 D1 m1 d1
  have P1 := Lib.hid (hN.keep ba)
  have Q1 := Lib.hid (hM.keep ba)
  have F1 := Lib.hid hf
  have B1 := Lib.hid ((B0.out.trans (hb.mono B0.out.size)).trans (ba.mono (Nat.le_trans B0.out.size hb.size)))
  clear hN hM hb ba hf B0 
  go_wp2_with fail
  obtain ⟨v1, hv⟩ : ∃ v, w1.alloc (.cells #[.bool s, .slice A1 n1 c1, .slice D1 m1 d1] 25) = v := ⟨_, rfl⟩
  obtain ⟨g1, hg⟩ : ∃ g, w1.heap.size = g := ⟨_, rfl⟩
  rw [hv, hg]
  rw [hv] at P1 Q1 F1 B1
  rw [hg] at F1
  clear hv hg
  refine (J2.out _).mono ?_
  rintro e w2 ⟨A2, n2, c2, x2, D2, m2, d2, y2, rfl, hN, hM, hb⟩
  have ba : Below w2.heap.size w2 (w2.alloc (.cells #[.bool s, .slice A2 n2 c2, .slice D2 m2 d2] 25)) := (Below.refl _ _).alloc (Nat.le_refl _) _
  have hf := FB.new w2 s A2 n2 c2 D2 m2 d2
  have R2 := Lib.hid (hN.keep ba)
  have S2 := Lib.hid (hM.keep ba)
  have G2 := Lib.hid hf
  have P2 := Lib.hid ((P1.out.keep hb).keep ba)
  have Q2 := Lib.hid ((Q1.out.keep hb).keep ba)
  have F2 := Lib.hid ((F1.out.keep hb).keep ba)
  have B2 := Lib.hid ((B1.out.trans (hb.mono B1.out.size)).trans (ba.mono (Nat.le_trans B1.out.size hb.size)))
  clear hN hM hb ba hf B1 P1 Q1 F1
  go_upto_region 3 with fail
  obtain ⟨v2, hv⟩ : ∃ v, w2.alloc (.cells #[.bool s, .slice A2 n2 c2, .slice D2 m2 d2] 25) = v := ⟨_, rfl⟩
  obtain ⟨g2, hg⟩ : ∃ g, w2.heap.size = g := ⟨_, rfl⟩
  rw [hv, hg]
  rw [hv] at P2 Q2 F2 R2 S2 G2 B2
  rw [hg] at G2
  clear hv hg
  have zB := B2.out
  have zP := P2.out
  have zQ := Q2.out
  have zR := R2.out
  have zS := S2.out
  have zF := F2.out
  have zG := G2.out
  clear P2 Q2 R2 S2 F2 G2 B2
  obtain ⟨Fa, Fb, Fc, _, _, _⟩ := zF.facts
  obtain ⟨Ga, Gb, Gc, _, _, _⟩ := zG.facts
  go_wp2_with fail
  clear Fa Fb Fc Ga Gb Gc
  refine (J3.out _).mono ?_
  rintro e wb ⟨Aa, na, ca, xa, Da, ma, da, ya, rfl, hNa, hMa, hb⟩
  replace zP := zP.keep hb; replace zQ := zQ.keep hb; replace zR := zR.keep hb; replace zS := zS.keep hb; replace zF := zF.keep hb; replace zG := zG.keep hb; replace zB := zB.trans (hb.mono zB.size); clear hb
  go_wp2_with fail
  refine (J4.out _).mono ?_
  rintro e wc ⟨Ab, nb, cb, xb, Db, mb, db, yb, rfl, hNb, hMb, hb⟩
  replace zP := zP.keep hb; replace zQ := zQ.keep hb; replace zR := zR.keep hb; replace zS := zS.keep hb; replace zF := zF.keep hb; replace zG := zG.keep hb; replace hNa := hNa.keep hb; replace hMa := hMa.keep hb; replace zB := zB.trans (hb.mono zB.size); clear hb
  go_wp2_with fail
  refine (sameFr_b hNa hMa hNb hMb).mono ?_
  rintro e wd ⟨rfl, hb⟩
  have B3 := Lib.hid (zB.trans (hb.mono zB.size))
  clear hb zB zP zQ zR zS zF zG hNa hMa hNb hMb J1 J2 J3 J4
  go_wp2_with fail
  refine (J5.out _).mono ?_
  rintro e w9 ⟨rfl, hb⟩
  have B9 := Lib.hid (B3.out.trans (hb.mono B3.out.size))
  clear hb B3
  go_wp2
  go_ret
  exact ⟨rfl, B9.out⟩
set_option maxRecDepth 100000 in
set_option maxHeartbeats 4000000 in
theorem makes_c8 (a b : Int) (neg : Bool) (X Y : Option Addr) (lx cx ly cy : Nat) (w : World) (s : Bool) (p q : Nat) (s1 : Bool) (p1 : Nat)
    (f1 : ∀ w', Calls Tryz.prog 28 #[.int .i64 a, .int .i64 b] w' (GivesBE s p q 8 w'))
    (f2 : ∀ w', Calls Tryz.prog 29 #[.int .i64 a, .int .i64 b] w' (GivesBE s p q 8 w'))
    (f3 : ∀ w', Calls Tryz.prog 30 #[.int .i64 a] w' (GivesB s1 p1 1 w'))
    (f4 : ∀ w', Calls Tryz.prog 17 #[.int .i64 a] w' (GivesB s1 p1 1 w'))
    (h1 : lx ≤ 20) (h2 : ly ≤ 20) (k1 : ∀ w', Below w.heap.size w w' → Calls Tryz.prog 31 #[.slice X lx cx] w' fun e w'' => e = .returned (.bool false) ∧ w' = w'') : Calls Tryz.prog 5 #[.int .i64 a, .int .i64 b, .bool neg, .slice X lx cx, .slice Y ly cy] w (Gives (.bool true) w) := by
  have J1 := Lib.hid f1
  have J2 := Lib.hid f2
  have J3 := Lib.hid f3
  have J4 := Lib.hid f4
  have J5 := Lib.hid awake2
  have B0 := Lib.hid (Below.refl w.heap.size w)
  have K1 := Lib.hid k1
  clear k1
  clear f1 f2 f3 f4
  go_enter Tryz.func5, Tryz.ntmps5
  go_wp2_with fail
  refine (J1.out _).mono ?_
  rintro e w1 ⟨A1, n1, c1, x1, D1, m1, d1, y1, rfl, hN, hM, hb⟩
  have ba : Below w1.heap.size w1 (w1.alloc (.cells #[.bool s, .slice A1 n1 c1, .slice D1 m1 d1] 25)) := (Below.refl _ _).alloc (Nat.le_refl _) _
  have hf := FB.new w1 s A1 n1 c1 D1 m1 d1
  have P1 := Lib.hid (hN.keep ba)
  have Q1 := Lib.hid (hM.keep ba)
  have F1 := Lib.hid hf
  have B1 := Lib.hid ((B0.out.trans (hb.mono B0.out.size)).trans (ba.mono (Nat.le_trans B0.out.size hb.size)))
  clear hN hM hb ba hf B0 
  go_wp2_with fail
  obtain ⟨v1, hv⟩ : ∃ v, w1.alloc (.cells #[.bool s, .slice A1 n1 c1, .slice D1 m1 d1] 25) = v := ⟨_, rfl⟩
  obtain ⟨g1, hg⟩ : ∃ g, w1.heap.size = g := ⟨_, rfl⟩
  rw [hv, hg]
  rw [hv] at P1 Q1 F1 B1
  rw [hg] at F1
  clear hv hg
  refine (J2.out _).mono ?_
  rintro e w2 ⟨A2, n2, c2, x2, D2, m2, d2, y2, rfl, hN, hM, hb⟩
  have ba : Below w2.heap.size w2 (w2.alloc (.cells #[.bool s, .slice A2 n2 c2, .slice D2 m2 d2] 25)) := (Below.refl _ _).alloc (Nat.le_refl _) _
  have hf := FB.new w2 s A2 n2 c2 D2 m2 d2
  have R2 := Lib.hid (hN.keep ba)
  have S2 := Lib.hid (hM.keep ba)
  have G2 := Lib.hid hf
  have P2 := Lib.hid ((P1.out.keep hb).keep ba)
  have Q2 := Lib.hid ((Q1.out.keep hb).keep ba)
  have F2 := Lib.hid ((F1.out.keep hb).keep ba)
  have B2 := Lib.hid ((B1.out.trans (hb.mono B1.out.size)).trans (ba.mono (Nat.le_trans B1.out.size hb.size)))
  clear hN hM hb ba hf B1 P1 Q1 F1
  go_upto_region 3 with fail
  obtain ⟨v2, hv⟩ : ∃ v, w2.alloc (.cells #[.bool s, .slice A2 n2 c2, .slice D2 m2 d2] 25) = v := ⟨_, rfl⟩
  obtain ⟨g2, hg⟩ : ∃ g, w2.heap.size = g := ⟨_, rfl⟩
  rw [hv, hg]
  rw [hv] at P2 Q2 F2 R2 S2 G2 B2
  rw [hg] at G2
  clear hv hg
  have zB := B2.out
  have zP := P2.out
  have zQ := Q2.out
  have zR := R2.out
  have zS := S2.out
  have zF := F2.out
  have zG := G2.out
  clear P2 Q2 R2 S2 F2 G2 B2
  obtain ⟨Fa, Fb, Fc, _, _, _⟩ := zF.facts
  obtain ⟨Ga, Gb, Gc, _, _, _⟩ := zG.facts
  go_wp2_with fail
  clear Fa Fb Fc Ga Gb Gc
  refine (J3.out _).mono ?_
  rintro e wb ⟨Aa, na, ca, xa, Da, ma, da, ya, rfl, hNa, hMa, hb⟩
  replace zP := zP.keep hb; replace zQ := zQ.keep hb; replace zR := zR.keep hb; replace zS := zS.keep hb; replace zF := zF.keep hb; replace zG := zG.keep hb; replace zB := zB.trans (hb.mono zB.size); clear hb
  go_wp2_with fail
  refine (J4.out _).mono ?_
  rintro e wc ⟨Ab, nb, cb, xb, Db, mb, db, yb, rfl, hNb, hMb, hb⟩
  replace zP := zP.keep hb; replace zQ := zQ.keep hb; replace zR := zR.keep hb; replace zS := zS.keep hb; replace zF := zF.keep hb; replace zG := zG.keep hb; replace hNa := hNa.keep hb; replace hMa := hMa.keep hb; replace zB := zB.trans (hb.mono zB.size); clear hb
  go_wp2_with fail
  refine (sameFr_b hNa hMa hNb hMb).mono ?_
  rintro e wd ⟨rfl, hb⟩
  have B3 := Lib.hid (zB.trans (hb.mono zB.size))
  clear hb zB zP zQ zR zS zF zG hNa hMa hNb hMb J1 J2 J3 J4
  go_wp2_with fail
  refine (K1.out _ B3.out).mono ?_
  rintro e w' ⟨rfl, rfl⟩
  go_wp2_with fail
  refine (J5.out _).mono ?_
  rintro e w9 ⟨rfl, hb⟩
  have B9 := Lib.hid (B3.out.trans (hb.mono B3.out.size))
  clear hb B3
  go_wp2
  go_ret
  exact ⟨rfl, B9.out⟩
set_option maxRecDepth 100000 in
set_option maxHeartbeats 4000000 in
theorem makes_d8 (a b : Int) (neg : Bool) (X Y : Option Addr) (lx cx ly cy : Nat) (w : World) (s : Bool) (p q : Nat) (s1 : Bool) (p1 : Nat)
    (f1 : ∀ w', Calls Tryz.prog 28 #[.int .i64 a, .int .i64 b] w' (GivesBE s p q 8 w'))
    (f2 : ∀ w', Calls Tryz.prog 29 #[.int .i64 a, .int .i64 b] w' (GivesBE s p q 8 w'))
    (f3 : ∀ w', Calls Tryz.prog 30 #[.int .i64 a] w' (GivesB s1 p1 1 w'))
    (f4 : ∀ w', Calls Tryz.prog 17 #[.int .i64 a] w' (GivesB s1 p1 1 w'))
    (h1 : lx ≤ 20) (h2 : ly ≤ 20) (k1 : ∀ w', Below w.heap.size w w' → Calls Tryz.prog 31 #[.slice X lx cx] w' fun e w'' => e = .returned (.bool true) ∧ w' = w'') (k2 : ∀ w', Below w.heap.size w w' → Calls Tryz.prog 31 #[.slice Y ly cy] w' fun e w'' => e = .returned (.bool false) ∧ w' = w'') : Calls Tryz.prog 5 #[.int .i64 a, .int .i64 b, .bool neg, .slice X lx cx, .slice Y ly cy] w (Gives (.bool true) w) := by
  have J1 := Lib.hid f1
  have J2 := Lib.hid f2
  have J3 := Lib.hid f3
  have J4 := Lib.hid f4
  have J5 := Lib.hid awake2
  have B0 := Lib.hid (Below.refl w.heap.size w)
  have K1 := Lib.hid k1
  have K2 := Lib.hid k2
  clear k1 k2
  clear f1 f2 f3 f4
  go_enter Tryz.func5, Tryz.ntmps5
  go_wp2_with fail
  refine (J1.out _).mono ?_
  rintro e w1 ⟨A1, n1, c1, x1, D1, m1, d1, y1, rfl, hN, hM, hb⟩
  have ba : Below w1.heap.size w1 (w1.alloc (.cells #[.bool s, .slice A1 n1 c1, .slice D1 m1 d1] 25)) := (Below.refl _ _).alloc (Nat.le_refl _) _
  have hf := FB.new w1 s A1 n1 c1 D1 m1 d1
  have P1 := Lib.hid (hN.keep ba)
  have Q1 := Lib.hid (hM.keep ba)
  have F1 := Lib.hid hf
  have B1 := Lib.hid ((B0.out.trans (hb.mono B0.out.size)).trans (ba.mono (Nat.le_trans B0.out.size hb.size)))
  clear hN hM hb ba hf B0 
  go_wp2_with fail
  obtain ⟨v1, hv⟩ : ∃ v, w1.alloc (.cells #[.bool s, .slice A1 n1 c1, .slice D1 m1 d1] 25) = v := ⟨_, rfl⟩
  obtain ⟨g1, hg⟩ : ∃ g, w1.heap.size = g := ⟨_, rfl⟩
  rw [hv, hg]
  rw [hv] at P1 Q1 F1 B1
  rw [hg] at F1
  clear hv hg
  refine (J2.out _).mono ?_
  rintro e w2 ⟨A2, n2, c2, x2, D2, m2, d2, y2, rfl, hN, hM, hb⟩
  have ba : Below w2.heap.size w2 (w2.alloc (.cells #[.bool s, .slice A2 n2 c2, .slice D2 m2 d2] 25)) := (Below.refl _ _).alloc (Nat.le_refl _) _
  have hf := FB.new w2 s A2 n2 c2 D2 m2 d2
  have R2 := Lib.hid (hN.keep ba)
  have S2 := Lib.hid (hM.keep ba)
  have G2 := Lib.hid hf
  have P2 := Lib.hid ((P1.out.keep hb).keep ba)
  have Q2 := Lib.hid ((Q1.out.keep hb).keep ba)
  have F2 := Lib.hid ((F1.out.keep hb).keep ba)
  have B2 := Lib.hid ((B1.out.trans (hb.mono B1.out.size)).trans (ba.mono (Nat.le_trans B1.out.size hb.size)))
  clear hN hM hb ba hf B1 P1 Q1 F1
  go_upto_region 3 with fail
  obtain ⟨v2, hv⟩ : ∃ v, w2.alloc (.cells #[.bool s, .slice A2 n2 c2, .slice D2 m2 d2] 25) = v := ⟨_, rfl⟩
  obtain ⟨g2, hg⟩ : ∃ g, w2.heap.size = g := ⟨_, rfl⟩
  rw [hv, hg]
  rw [hv] at P2 Q2 F2 R2 S2 G2 B2
  rw [hg] at G2
  clear hv hg
  have zB := B2.out
  have zP := P2.out
  have zQ := Q2.out
  have zR := R2.out
  have zS := S2.out
  have zF := F2.out
  have zG := G2.out
  clear P2 Q2 R2 S2 F2 G2 B2
  obtain ⟨Fa, Fb, Fc, _, _, _⟩ := zF.facts
  obtain ⟨Ga, Gb, Gc, _, _, _⟩ := zG.facts
  go_wp2_with fail
  clear Fa Fb Fc Ga Gb Gc
  refine (J3.out _).mono ?_
  rintro e wb ⟨Aa, na, ca, xa, Da, ma, da, ya, rfl, hNa, hMa, hb⟩
  replace zP := zP.keep hb; replace zQ := zQ.keep hb; replace zR := zR.keep hb; replace zS := zS.keep hb; replace zF := zF.keep hb; replace zG := zG.keep hb; replace zB := zB.trans (hb.mono zB.size); clear hb
  go_wp2_with fail
  refine (J4.out _).mono ?_
  rintro e wc ⟨Ab, nb, cb, xb, Db, mb, db, yb, rfl, hNb, hMb, hb⟩
  replace zP := zP.keep hb; replace zQ := zQ.keep hb; replace zR := zR.keep hb; replace zS := zS.keep hb; replace zF := zF.keep hb; replace zG := zG.keep hb; replace hNa := hNa.keep hb; replace hMa := hMa.keep hb; replace zB := zB.trans (hb.mono zB.size); clear hb
  go_wp2_with fail
  refine (sameFr_b hNa hMa hNb hMb).mono ?_
  rintro e wd ⟨rfl, hb⟩
  have B3 := Lib.hid (zB.trans (hb.mono zB.size))
  clear hb zB zP zQ zR zS zF zG hNa hMa hNb hMb J1 J2 J3 J4
  go_wp2_with fail
  refine (K1.out _ B3.out).mono ?_
  rintro e w' ⟨rfl, rfl⟩
  go_wp2_with fail
  refine (K2.out _ B3.out).mono ?_
  rintro e w' ⟨rfl, rfl⟩
  go_wp2_with fail
  refine (J5.out _).mono ?_
  rintro e w9 ⟨rfl, hb⟩
  have B9 := Lib.hid (B3.out.trans (hb.mono B3.out.size))
  clear hb B3
  go_wp2
  go_ret
  exact ⟨rfl, B9.out⟩
set_option maxRecDepth 100000 in
set_option maxHeartbeats 4000000 in
theorem makes_e80 (a b : Int) (neg : Bool) (X Y : Option Addr) (lx cx ly cy : Nat) (w : World) (s : Bool) (p q : Nat) (s1 : Bool) (p1 : Nat)
    (f1 : ∀ w', Calls Tryz.prog 28 #[.int .i64 a, .int .i64 b] w' (GivesBE s p q 8 w'))
    (f2 : ∀ w', Calls Tryz.prog 29 #[.int .i64 a, .int .i64 b] w' (GivesBE s p q 8 w'))
    (f3 : ∀ w', Calls Tryz.prog 30 #[.int .i64 a] w' (GivesB s1 p1 1 w'))
    (f4 : ∀ w', Calls Tryz.prog 17 #[.int .i64 a] w' (GivesB s1 p1 1 w'))
    (h1 : lx ≤ 20) (h2 : ly ≤ 20) (k1 : ∀ w', Below w.heap.size w w' → Calls Tryz.prog 31 #[.slice X lx cx] w' fun e w'' => e = .returned (.bool true) ∧ w' = w'') (k2 : ∀ w', Below w.heap.size w w' → Calls Tryz.prog 31 #[.slice Y ly cy] w' fun e w'' => e = .returned (.bool true) ∧ w' = w'') (s2 : Bool) (p2 q2 : Nat) (m1 : ∀ w', Below w.heap.size w w' → Calls Tryz.prog 32 #[.bool neg, .slice X lx cx, .slice Y ly cy] w' (GivesBE s2 p2 q2 0 w')) (m2 : ∀ w', Below w.heap.size w w' → Calls Tryz.prog 33 #[.bool neg, .slice X lx cx, .slice Y ly cy] w' (GivesBE s2 p2 q2 0 w')) : Calls Tryz.prog 5 #[.int .i64 a, .int .i64 b, .bool neg, .slice X lx cx, .slice Y ly cy] w (Gives (.bool true) w) := by
  have J1 := Lib.hid f1
  have J2 := Lib.hid f2
  have J3 := Lib.hid f3
  have J4 := Lib.hid f4
  have J5 := Lib.hid awake2
  have B0 := Lib.hid (Below.refl w.heap.size w)
  have K1 := Lib.hid k1
  have K2 := Lib.hid k2
  have M1 := Lib.hid m1
  have M2 := Lib.hid m2
  clear k1 k2 m1 m2
  clear f1 f2 f3 f4
  go_enter Tryz.func5, Tryz.ntmps5
  go_wp2_with fail
  refine (J1.out _).mono ?_
  rintro e w1 ⟨A1, n1, c1, x1, D1, m1, d1, y1, rfl, hN, hM, hb⟩
  have ba : Below w1.heap.size w1 (w1.alloc (.cells #[.bool s, .slice A1 n1 c1, .slice D1 m1 d1] 25)) := (Below.refl _ _).alloc (Nat.le_refl _) _
  have hf := FB.new w1 s A1 n1 c1 D1 m1 d1
  have P1 := Lib.hid (hN.keep ba)
  have Q1 := Lib.hid (hM.keep ba)
  have F1 := Lib.hid hf
  have B1 := Lib.hid ((B0.out.trans (hb.mono B0.out.size)).trans (ba.mono (Nat.le_trans B0.out.size hb.size)))
  clear hN hM hb ba hf B0 
  go_wp2_with fail
  obtain ⟨v1, hv⟩ : ∃ v, w1.alloc (.cells #[.bool s, .slice A1 n1 c1, .slice D1 m1 d1] 25) = v := ⟨_, rfl⟩
  obtain ⟨g1, hg⟩ : ∃ g, w1.heap.size = g := ⟨_, rfl⟩
  rw [hv, hg]
  rw [hv] at P1 Q1 F1 B1
  rw [hg] at F1
  clear hv hg
  refine (J2.out _).mono ?_
  rintro e w2 ⟨A2, n2, c2, x2, D2, m2, d2, y2, rfl, hN, hM, hb⟩
  have ba : Below w2.heap.size w2 (w2.alloc (.cells #[.bool s, .slice A2 n2 c2, .slice D2 m2 d2] 25)) := (Below.refl _ _).alloc (Nat.le_refl _) _
  have hf := FB.new w2 s A2 n2 c2 D2 m2 d2
  have R2 := Lib.hid (hN.keep ba)
  have S2 := Lib.hid (hM.keep ba)
  have G2 := Lib.hid hf
  have P2 := Lib.hid ((P1.out.keep hb).keep ba)
  have Q2 := Lib.hid ((Q1.out.keep hb).keep ba)
  have F2 := Lib.hid ((F1.out.keep hb).keep ba)
  have B2 := Lib.hid ((B1.out.trans (hb.mono B1.out.size)).trans (ba.mono (Nat.le_trans B1.out.size hb.size)))
  clear hN hM hb ba hf B1 P1 Q1 F1
  go_upto_region 3 with fail
  obtain ⟨v2, hv⟩ : ∃ v, w2.alloc (.cells #[.bool s, .slice A2 n2 c2, .slice D2 m2 d2] 25) = v := ⟨_, rfl⟩
  obtain ⟨g2, hg⟩ : ∃ g, w2.heap.size = g := ⟨_, rfl⟩
  rw [hv, hg]
  rw [hv] at P2 Q2 F2 R2 S2 G2 B2
  rw [hg] at G2
  clear hv hg
  have zB := B2.out
  have zP := P2.out
  have zQ := Q2.out
  have zR := R2.out
  have zS := S2.out
  have zF := F2.out
  have zG := G2.out
  clear P2 Q2 R2 S2 F2 G2 B2
  obtain ⟨Fa, Fb, Fc, _, _, _⟩ := zF.facts
  obtain ⟨Ga, Gb, Gc, _, _, _⟩ := zG.facts
  go_wp2_with fail
  clear Fa Fb Fc Ga Gb Gc
  refine (J3.out _).mono ?_
  rintro e wb ⟨Aa, na, ca, xa, Da, ma, da, ya, rfl, hNa, hMa, hb⟩
  replace zP := zP.keep hb; replace zQ := zQ.keep hb; replace zR := zR.keep hb; replace zS := zS.keep hb; replace zF := zF.keep hb; replace zG := zG.keep hb; replace zB := zB.trans (hb.mono zB.size); clear hb
  go_wp2_with fail
  refine (J4.out _).mono ?_
  rintro e wc ⟨Ab, nb, cb, xb, Db, mb, db, yb, rfl, hNb, hMb, hb⟩
  replace zP := zP.keep hb; replace zQ := zQ.keep hb; replace zR := zR.keep hb; replace zS := zS.keep hb; replace zF := zF.keep hb; replace zG := zG.keep hb; replace hNa := hNa.keep hb; replace hMa := hMa.keep hb; replace zB := zB.trans (hb.mono zB.size); clear hb
  go_wp2_with fail
  refine (sameFr_b hNa hMa hNb hMb).mono ?_
  rintro e wd ⟨rfl, hb⟩
  have B3 := Lib.hid (zB.trans (hb.mono zB.size))
  clear hb zB zP zQ zR zS zF zG hNa hMa hNb hMb J1 J2 J3 J4
  go_wp2_with fail
  refine (K1.out _ B3.out).mono ?_
  rintro e w' ⟨rfl, rfl⟩
  go_wp2_with fail
  refine (K2.out _ B3.out).mono ?_
  rintro e w' ⟨rfl, rfl⟩
  go_wp2_with fail
  refine (M1.out _ B3.out).mono ?_
  rintro e w4 ⟨A4, n4, c4, x4, D4, m4, d4, y4, rfl, hN, hM, hb⟩
  have ba : Below w4.heap.size w4 (w4.alloc (.cells #[.bool s2, .slice A4 n4 c4, .slice D4 m4 d4] 25)) := (Below.refl _ _).alloc (Nat.le_refl _) _
  have hf := FB.new w4 s2 A4 n4 c4 D4 m4 d4
  have P4 := Lib.hid (hN.keep ba)
  have Q4 := Lib.hid (hM.keep ba)
  have F4 := Lib.hid hf
  have B4 := Lib.hid ((B3.out.trans (hb.mono B3.out.size)).trans (ba.mono (Nat.le_trans B3.out.size hb.size)))
  clear hN hM hb ba hf B3 
  go_wp2_with fail
  obtain ⟨v4, hv⟩ : ∃ v, w4.alloc (.cells #[.bool s2, .slice A4 n4 c4, .slice D4 m4 d4] 25) = v := ⟨_, rfl⟩
  obtain ⟨g4, hg⟩ : ∃ g, w4.heap.size = g := ⟨_, rfl⟩
  rw [hv, hg]
  rw [hv] at P4 Q4 F4 B4
  rw [hg] at F4
  clear hv hg
  refine (M2.out _ B4.out).mono ?_
  rintro e w5 ⟨A5, n5, c5, x5, D5, m5, d5, y5, rfl, hN, hM, hb⟩
  have ba : Below w5.heap.size w5 (w5.alloc (.cells #[.bool s2, .slice A5 n5 c5, .slice D5 m5 d5] 25)) := (Below.refl _ _).alloc (Nat.le_refl _) _
  have hf := FB.new w5 s2 A5 n5 c5 D5 m5 d5
  have R5 := Lib.hid (hN.keep ba)
  have S5 := Lib.hid (hM.keep ba)
  have G5 := Lib.hid hf
  have P5 := Lib.hid ((P4.out.keep hb).keep ba)
  have Q5 := Lib.hid ((Q4.out.keep hb).keep ba)
  have F5 := Lib.hid ((F4.out.keep hb).keep ba)
  have B5 := Lib.hid ((B4.out.trans (hb.mono B4.out.size)).trans (ba.mono (Nat.le_trans B4.out.size hb.size)))
  clear hN hM hb ba hf B4 P4 Q4 F4
  go_upto_region 9 with fail
  obtain ⟨v5, hv⟩ : ∃ v, w5.alloc (.cells #[.bool s2, .slice A5 n5 c5, .slice D5 m5 d5] 25) = v := ⟨_, rfl⟩
  obtain ⟨g5, hg⟩ : ∃ g, w5.heap.size = g := ⟨_, rfl⟩
  rw [hv, hg]
  rw [hv] at P5 Q5 F5 R5 S5 G5 B5
  rw [hg] at G5
  clear hv hg
  obtain ⟨Fa, Fb, Fc, _, _, _⟩ := F5.out.facts
  obtain ⟨Ga, Gb, Gc, _, _, _⟩ := G5.out.facts
  go_wp2_with fail
  refine (sameFr_b P5.out Q5.out R5.out S5.out).mono ?_
  rintro e wa ⟨rfl, hb⟩
  have B3 := Lib.hid (B5.out.trans (hb.mono B5.out.size))
  clear hb B5 P5 Q5 R5 S5 F5 G5 Fa Fb Fc Ga Gb Gc
  go_wp2_with fail
  refine (J5.out _).mono ?_
  rintro e w9 ⟨rfl, hb⟩
  have B9 := Lib.hid (B3.out.trans (hb.mono B3.out.size))
  clear hb B3
  go_wp2
  go_ret
  exact ⟨rfl, B9.out⟩
set_option maxRecDepth 100000 in
set_option maxHeartbeats 4000000 in
theorem makes_e88 (a b : Int) (neg : Bool) (X Y : Option Addr) (lx cx ly cy : Nat) (w : World) (s : Bool) (p q : Nat) (s1 : Bool) (p1 : Nat)
    (f1 : ∀ w', Calls Tryz.prog 28 #[.int .i64 a, .int .i64 b] w' (GivesBE s p q 8 w'))
    (f2 : ∀ w', Calls Tryz.prog 29 #[.int .i64 a, .int .i64 b] w' (GivesBE s p q 8 w'))
    (f3 : ∀ w', Calls Tryz.prog 30 #[.int .i64 a] w' (GivesB s1 p1 1 w'))
    (f4 : ∀ w', Calls Tryz.prog 17 #[.int .i64 a] w' (GivesB s1 p1 1 w'))
    (h1 : lx ≤ 20) (h2 : ly ≤ 20) (k1 : ∀ w', Below w.heap.size w w' → Calls Tryz.prog 31 #[.slice X lx cx] w' fun e w'' => e = .returned (.bool true) ∧ w' = w'') (k2 : ∀ w', Below w.heap.size w w' → Calls Tryz.prog 31 #[.slice Y ly cy] w' fun e w'' => e = .returned (.bool true) ∧ w' = w'') (s2 : Bool) (p2 q2 : Nat) (m1 : ∀ w', Below w.heap.size w w' → Calls Tryz.prog 32 #[.bool neg, .slice X lx cx, .slice Y ly cy] w' (GivesBE s2 p2 q2 8 w')) (m2 : ∀ w', Below w.heap.size w w' → Calls Tryz.prog 33 #[.bool neg, .slice X lx cx, .slice Y ly cy] w' (GivesBE s2 p2 q2 8 w')) : Calls Tryz.prog 5 #[.int .i64 a, .int .i64 b, .bool neg, .slice X lx cx, .slice Y ly cy] w (Gives (.bool true) w) := by
  have J1 := Lib.hid f1
  have J2 := Lib.hid f2
  have J3 := Lib.hid f3
  have J4 := Lib.hid f4
  have J5 := Lib.hid awake2
  have B0 := Lib.hid (Below.refl w.heap.size w)
  have K1 := Lib.hid k1
  have K2 := Lib.hid k2
  have M1 := Lib.hid m1
  have M2 := Lib.hid m2
  clear k1 k2 m1 m2
  clear f1 f2 f3 f4
  go_enter Tryz.func5, Tryz.ntmps5
  go_wp2_with fail
  refine (J1.out _).mono ?_
  rintro e w1 ⟨A1, n1, c1, x1, D1, m1, d1, y1, rfl, hN, hM, hb⟩
  have ba : Below w1.heap.size w1 (w1.alloc (.cells #[.bool s, .slice A1 n1 c1, .slice D1 m1 d1] 25)) := (Below.refl _ _).alloc (Nat.le_refl _) _
  have hf := FB.new w1 s A1 n1 c1 D1 m1 d1
  have P1 := Lib.hid (hN.keep ba)
  have Q1 := Lib.hid (hM.keep ba)
  have F1 := Lib.hid hf
  have B1 := Lib.hid ((B0.out.trans (hb.mono B0.out.size)).trans (ba.mono (Nat.le_trans B0.out.size hb.size)))
  clear hN hM hb ba hf B0 
  go_wp2_with fail
  obtain ⟨v1, hv⟩ : ∃ v, w1.alloc (.cells #[.bool s, .slice A1 n1 c1, .slice D1 m1 d1] 25) = v := ⟨_, rfl⟩
  obtain ⟨g1, hg⟩ : ∃ g, w1.heap.size = g := ⟨_, rfl⟩
  rw [hv, hg]
  rw [hv] at P1 Q1 F1 B1
  rw [hg] at F1
  clear hv hg
  refine (J2.out _).mono ?_
  rintro e w2 ⟨A2, n2, c2, x2, D2, m2, d2, y2, rfl, hN, hM, hb⟩
  have ba : Below w2.heap.size w2 (w2.alloc (.cells #[.bool s, .slice A2 n2 c2, .slice D2 m2 d2] 25)) := (Below.refl _ _).alloc (Nat.le_refl _) _
  have hf := FB.new w2 s A2 n2 c2 D2 m2 d2
  have R2 := Lib.hid (hN.keep ba)
  have S2 := Lib.hid (hM.keep ba)
  have G2 := Lib.hid hf
  have P2 := Lib.hid ((P1.out.keep hb).keep ba)
  have Q2 := Lib.hid ((Q1.out.keep hb).keep ba)
  have F2 := Lib.hid ((F1.out.keep hb).keep ba)
  have B2 := Lib.hid ((B1.out.trans (hb.mono B1.out.size)).trans (ba.mono (Nat.le_trans B1.out.size hb.size)))
  clear hN hM hb ba hf B1 P1 Q1 F1
  go_upto_region 3 with fail
  obtain ⟨v2, hv⟩ : ∃ v, w2.alloc (.cells #[.bool s, .slice A2 n2 c2, .slice D2 m2 d2] 25) = v := ⟨_, rfl⟩
  obtain ⟨g2, hg⟩ : ∃ g, w2.heap.size = g := ⟨_, rfl⟩
  rw [hv, hg]
  rw [hv] at P2 Q2 F2 R2 S2 G2 B2
  rw [hg] at G2
  clear hv hg
  have zB := B2.out
  have zP := P2.out
  have zQ := Q2.out
  have zR := R2.out
  have zS := S2.out
  have zF := F2.out
  have zG := G2.out
  clear P2 Q2 R2 S2 F2 G2 B2
  obtain ⟨Fa, Fb, Fc, _, _, _⟩ := zF.facts
  obtain ⟨Ga, Gb, Gc, _, _, _⟩ := zG.facts
  go_wp2_with fail
  clear Fa Fb Fc Ga Gb Gc
  refine (J3.out _).mono ?_
  rintro e wb ⟨Aa, na, ca, xa, Da, ma, da, ya, rfl, hNa, hMa, hb⟩
  replace zP := zP.keep hb; replace zQ := zQ.keep hb; replace zR := zR.keep hb; replace zS := zS.keep hb; replace zF := zF.keep hb; replace zG := zG.keep hb; replace zB := zB.trans (hb.mono zB.size); clear hb
  go_wp2_with fail
  refine (J4.out _).mono ?_
  rintro e wc ⟨Ab, nb, cb, xb, Db, mb, db, yb, rfl, hNb, hMb, hb⟩
  replace zP := zP.keep hb; replace zQ := zQ.keep hb; replace zR := zR.keep hb; replace zS := zS.keep hb; replace zF := zF.keep hb; replace zG := zG.keep hb; replace hNa := hNa.keep hb; replace hMa := hMa.keep hb; replace zB := zB.trans (hb.mono zB.size); clear hb
  go_wp2_with fail
  refine (sameFr_b hNa hMa hNb hMb).mono ?_
  rintro e wd ⟨rfl, hb⟩
  have B3 := Lib.hid (zB.trans (hb.mono zB.size))
  clear hb zB zP zQ zR zS zF zG hNa hMa hNb hMb J1 J2 J3 J4
  go_wp2_with fail
  refine (K1.out _ B3.out).mono ?_
  rintro e w' ⟨rfl, rfl⟩
  go_wp2_with fail
  refine (K2.out _ B3.out).mono ?_
  rintro e w' ⟨rfl, rfl⟩
  go_wp2_with fail
  refine (M1.out _ B3.out).mono ?_
  rintro e w4 ⟨A4, n4, c4, x4, D4, m4, d4, y4, rfl, hN, hM, hb⟩
  have ba : Below w4.heap.size w4 (w4.alloc (.cells #[.bool s2, .slice A4 n4 c4, .slice D4 m4 d4] 25)) := (Below.refl _ _).alloc (Nat.le_refl _) _
  have hf := FB.new w4 s2 A4 n4 c4 D4 m4 d4
  have P4 := Lib.hid (hN.keep ba)
  have Q4 := Lib.hid (hM.keep ba)
  have F4 := Lib.hid hf
  have B4 := Lib.hid ((B3.out.trans (hb.mono B3.out.size)).trans (ba.mono (Nat.le_trans B3.out.size hb.size)))
  clear hN hM hb ba hf B3 
  go_wp2_with fail
  obtain ⟨v4, hv⟩ : ∃ v, w4.alloc (.cells #[.bool s2, .slice A4 n4 c4, .slice D4 m4 d4] 25) = v := ⟨_, rfl⟩
  obtain ⟨g4, hg⟩ : ∃ g, w4.heap.size = g := ⟨_, rfl⟩
  rw [hv, hg]
  rw [hv] at P4 Q4 F4 B4
  rw [hg] at F4
  clear hv hg
  refine (M2.out _ B4.out).mono ?_
  rintro e w5 ⟨A5, n5, c5, x5, D5, m5, d5, y5, rfl, hN, hM, hb⟩
  have ba : Below w5.heap.size w5 (w5.alloc (.cells #[.bool s2, .slice A5 n5 c5, .slice D5 m5 d5] 25)) := (Below.refl _ _).alloc (Nat.le_refl _) _
  have hf := FB.new w5 s2 A5 n5 c5 D5 m5 d5
  have R5 := Lib.hid (hN.keep ba)
  have S5 := Lib.hid (hM.keep ba)
  have G5 := Lib.hid hf
  have P5 := Lib.hid ((P4.out.keep hb).keep ba)
  have Q5 := Lib.hid ((Q4.out.keep hb).keep ba)
  have F5 := Lib.hid ((F4.out.keep hb).keep ba)
  have B5 := Lib.hid ((B4.out.trans (hb.mono B4.out.size)).trans (ba.mono (Nat.le_trans B4.out.size hb.size)))
  clear hN hM hb ba hf B4 P4 Q4 F4
  go_upto_region 9 with fail
  obtain ⟨v5, hv⟩ : ∃ v, w5.alloc (.cells #[.bool s2, .slice A5 n5 c5, .slice D5 m5 d5] 25) = v := ⟨_, rfl⟩
  obtain ⟨g5, hg⟩ : ∃ g, w5.heap.size = g := ⟨_, rfl⟩
  rw [hv, hg]
  rw [hv] at P5 Q5 F5 R5 S5 G5 B5
  rw [hg] at G5
  clear hv hg
  obtain ⟨Fa, Fb, Fc, _, _, _⟩ := F5.out.facts
  obtain ⟨Ga, Gb, Gc, _, _, _⟩ := G5.out.facts
  go_wp2_with fail
  have B3 := B5
  clear B5 P5 Q5 R5 S5 F5 G5 Fa Fb Fc Ga Gb Gc
  refine (J5.out _).mono ?_
  rintro e w9 ⟨rfl, hb⟩
  have B9 := Lib.hid (B3.out.trans (hb.mono B3.out.size))
  clear hb B3
  go_wp2
  go_ret
  exact ⟨rfl, B9.out⟩
end Go.Proofs.YtgmjpkkpkdcncaaGreatDoor
/- The walk of FractionMakes, all inputs: no claim of its own. -/
namespace Go.Proofs.YtgmjpkkpkdcncaaGreatDoor
open Go.RowKit
theorem makes_lists0 (a b : Int) (neg : Bool) (X Y : Option Addr) (lx cx ly cy : Nat) (w : World) (s : Bool) (p q : Nat) (s1 : Bool) (p1 : Nat)
    (f1 : ∀ w', Calls Tryz.prog 28 #[.int .i64 a, .int .i64 b] w' (GivesBE s p q 0 w'))
    (f2 : ∀ w', Calls Tryz.prog 29 #[.int .i64 a, .int .i64 b] w' (GivesBE s p q 0 w'))
    (f3 : ∀ w', Calls Tryz.prog 30 #[.int .i64 a] w' (GivesB s1 p1 1 w'))
    (f4 : ∀ w', Calls Tryz.prog 17 #[.int .i64 a] w' (GivesB s1 p1 1 w'))
    (z0 z1 : List Int) (w0 : IsRow .u32 w X lx cx z0) (w1 : IsRow .u32 w Y ly cy z1) : Calls Tryz.prog 5 #[.int .i64 a, .int .i64 b, .bool neg, .slice X lx cx, .slice Y ly cy] w (Gives (.bool true) w) := by
  rcases Nat.lt_or_ge 20 lx with h1 | h1
  · exact makes_a0 a b neg X Y lx cx ly cy w s p q s1 p1 f1 f2 f3 f4 h1 w0.len_le
  rcases Nat.lt_or_ge 20 ly with h2 | h2
  · exact makes_b0 a b neg X Y lx cx ly cy w s p q s1 p1 f1 f2 f3 f4 h1 h2 w1.len_le
  obtain ⟨xs, b0, hn0, k0⟩ := w0.natural h1
  obtain ⟨ys, b1, hn1, k1⟩ := w1.natural h2
  cases b0
  · exact makes_c0 a b neg X Y lx cx ly cy w s p q s1 p1 f1 f2 f3 f4 h1 h2 k0
  cases b1
  · exact makes_d0 a b neg X Y lx cx ly cy w s p q s1 p1 f1 f2 f3 f4 h1 h2 k0 k1
  have N0 := hn0 rfl
  have N1 := hn1 rfl
  rcases Nat.eq_zero_or_pos (dval ys) with hq | hq
  · rw [hq] at N1
    obtain rfl := N1.nzero
    exact makes_e08 a b neg X Y lx cx 0 cy w s p q s1 p1 f1 f2 f3 f4 h1 h2 k0 k1 false 0 0 (fun w' hb => make_zero neg X Y lx cx 0 cy ys w' (N1.keep hb)) (fun w' hb => rmake_zero neg X Y lx cx cy w')
  · exact makes_e00 a b neg X Y lx cx ly cy w s p q s1 p1 f1 f2 f3 f4 h1 h2 k0 k1 (Fr.mk' neg (dval xs) (dval ys)).s (Fr.mk' neg (dval xs) (dval ys)).p (Fr.mk' neg (dval xs) (dval ys)).q (fun w' hb => make_any neg X Y lx cx ly cy _ _ xs ys w' (N0.keep hb) (N1.keep hb) hq (by omega) (by omega)) (fun w' hb => rmake_any neg X Y lx cx ly cy _ _ 20 xs ys w' (N0.keep hb) (N1.keep hb) hq (N0.below h1) (N1.below h2) (by decide))
theorem makes_lists8 (a b : Int) (neg : Bool) (X Y : Option Addr) (lx cx ly cy : Nat) (w : World) (s : Bool) (p q : Nat) (s1 : Bool) (p1 : Nat)
    (f1 : ∀ w', Calls Tryz.prog 28 #[.int .i64 a, .int .i64 b] w' (GivesBE s p q 8 w'))
    (f2 : ∀ w', Calls Tryz.prog 29 #[.int .i64 a, .int .i64 b] w' (GivesBE s p q 8 w'))
    (f3 : ∀ w', Calls Tryz.prog 30 #[.int .i64 a] w' (GivesB s1 p1 1 w'))
    (f4 : ∀ w', Calls Tryz.prog 17 #[.int .i64 a] w' (GivesB s1 p1 1 w'))
    (z0 z1 : List Int) (w0 : IsRow .u32 w X lx cx z0) (w1 : IsRow .u32 w Y ly cy z1) : Calls Tryz.prog 5 #[.int .i64 a, .int .i64 b, .bool neg, .slice X lx cx, .slice Y ly cy] w (Gives (.bool true) w) := by
  rcases Nat.lt_or_ge 20 lx with h1 | h1
  · exact makes_a8 a b neg X Y lx cx ly cy w s p q s1 p1 f1 f2 f3 f4 h1 w0.len_le
  rcases Nat.lt_or_ge 20 ly with h2 | h2
  · exact makes_b8 a b neg X Y lx cx ly cy w s p q s1 p1 f1 f2 f3 f4 h1 h2 w1.len_le
  obtain ⟨xs, b0, hn0, k0⟩ := w0.natural h1
  obtain ⟨ys, b1, hn1, k1⟩ := w1.natural h2
  cases b0
  · exact makes_c8 a b neg X Y lx cx ly cy w s p q s1 p1 f1 f2 f3 f4 h1 h2 k0
  cases b1
  · exact makes_d8 a b neg X Y lx cx ly cy w s p q s1 p1 f1 f2 f3 f4 h1 h2 k0 k1
  have N0 := hn0 rfl
  have N1 := hn1 rfl
  rcases Nat.eq_zero_or_pos (dval ys) with hq | hq
  · rw [hq] at N1
    obtain rfl := N1.nzero
    exact makes_e88 a b neg X Y lx cx 0 cy w s p q s1 p1 f1 f2 f3 f4 h1 h2 k0 k1 false 0 0 (fun w' hb => make_zero neg X Y lx cx 0 cy ys w' (N1.keep hb)) (fun w' hb => rmake_zero neg X Y lx cx cy w')
  · exact makes_e80 a b neg X Y lx cx ly cy w s p q s1 p1 f1 f2 f3 f4 h1 h2 k0 k1 (Fr.mk' neg (dval xs) (dval ys)).s (Fr.mk' neg (dval xs) (dval ys)).p (Fr.mk' neg (dval xs) (dval ys)).q (fun w' hb => make_any neg X Y lx cx ly cy _ _ xs ys w' (N0.keep hb) (N1.keep hb) hq (by omega) (by omega)) (fun w' hb => rmake_any neg X Y lx cx ly cy _ _ 20 xs ys w' (N0.keep hb) (N1.keep hb) hq (N0.below h1) (N1.below h2) (by decide))
theorem makes_walk (a b : Int) (neg : Bool) (X : Option Addr) (lx cx : Nat) (z0 : List Int) (Y : Option Addr) (ly cy : Nat) (z1 : List Int) (w : World) (wa : (Lit.int .i64 a).wf = true) (wb : (Lit.int .i64 b).wf = true) (w0 : IsRow .u32 w X lx cx z0) (w1 : IsRow .u32 w Y ly cy z1) : Calls Tryz.prog 5 #[.int .i64 a, .int .i64 b, .bool neg, .slice X lx cx, .slice Y ly cy] w (Gives (.bool true) w) := by
  have ha := bounds_i64 wa
  have hb := bounds_i64 wb
  by_cases hz : b = 0
  · exact makes_lists8 a b neg X Y lx cx ly cy w false 0 0 (decide (a < 0)) a.natAbs
      (fun w' => new_zero a b ha.1 ha.2 hz w' _ _ rfl rfl)
      (fun w' => rnew_any a b ha.1 ha.2 hb.1 hb.2 w' _ _ rfl rfl ⟨false, 0, 0⟩ 8 (.inr ⟨hz, rfl, rfl⟩))
      (fun w' => fromInt_any a ha.1 ha.2 w' _ rfl) (fun w' => rfromInt_any a ha.1 ha.2 w' _ rfl) z0 z1 w0 w1
  · exact makes_lists0 a b neg X Y lx cx ly cy w (Fr.mk' (decide (a < 0) != decide (b < 0)) a.natAbs b.natAbs).s (Fr.mk' (decide (a < 0) != decide (b < 0)) a.natAbs b.natAbs).p (Fr.mk' (decide (a < 0) != decide (b < 0)) a.natAbs b.natAbs).q (decide (a < 0)) a.natAbs
      (fun w' => new_any a b ha.1 ha.2 hb.1 hb.2 hz w' _ _ rfl rfl)
      (fun w' => rnew_any a b ha.1 ha.2 hb.1 hb.2 w' _ _ rfl rfl _ 0 (.inl ⟨hz, rfl, rfl⟩))
      (fun w' => fromInt_any a ha.1 ha.2 w' _ rfl) (fun w' => rfromInt_any a ha.1 ha.2 w' _ rfl) z0 z1 w0 w1
end Go.Proofs.YtgmjpkkpkdcncaaGreatDoor
