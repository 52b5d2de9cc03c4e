/- The chapter's example numbers: no claim of its own. -/
import Derived.Test.YtbllnkhbahenkaaGreatDoorFSame
import Derived.Test.YtbllnkhbahenkaaGreatDoorFFormat
import Derived.Test.YtbllnkhbahenkaaGreatDoorLit2
import Derived.Test.YtbllnkhbahenkaaGreatDoorRound
import Derived.Test.YtbllnkhbahenkaaGreatDoorAddF
namespace Go.Proofs.YtbllnkhbahenkaaGreatDoor
open Go.RowKit
set_option maxRecDepth 100000 in
set_option maxHeartbeats 1000000 in
theorem new_zero (a b : Int) (ha0 : -9223372036854775808 ≤ a) (ha1 : a ≤ 9223372036854775807) (hb : b = 0) (w : World) (s t : Bool) (hs : decide (a < 0) = s) (ht : decide (b < 0) = t) :
    Calls Tryz.prog 18 #[.int .i64 a, .int .i64 b] w (GivesFrE ⟨false, 0, 0⟩ 8 w) := by
  have b0 := (Below.refl w.heap.size w).alloc (Nat.le_refl _) (.cells #[.bool false, .slice none 0 0, .slice none 0 0] 25)
  have R0 := Lib.hid (FB.new w false none 0 0 none 0 0)
  have B0 := Lib.hid b0
  have M1 := Lib.hid (fun w' => magnitude_any a ha0 ha1 w')
  have M2 := Lib.hid (fun w' => magnitude_any b (by omega) (by omega) w')
  have hbz : b.natAbs = 0 := by omega
  rw [hbz] at M2
  clear b0 hb
  generalize a.natAbs = p at *
  clear hbz
  go_enter Tryz.func18, Tryz.ntmps18
  go_wp2_with fail
  refine (M1.out _).mono ?_
  rintro e w1 ⟨A1, n1, c1, x1, rfl, hN, hb⟩
  have X1 := Lib.hid hN
  have R1 := Lib.hid (R0.out.keep hb)
  have B1 := Lib.hid (B0.out.trans (hb.mono B0.out.size))
  clear hN hb R0 B0
  go_wp2_with fail
  refine (M2.out _).mono ?_
  rintro e w2 ⟨A2, n2, c2, x2, rfl, hN, hb⟩
  have Y2 := Lib.hid hN
  have X2 := Lib.hid (X1.out.keep hb)
  have R2 := Lib.hid (R1.out.keep hb)
  have B2 := Lib.hid (B1.out.trans (hb.mono B1.out.size))
  clear hN hb R1 B1 X1
  have MK := Lib.hid (make_zero (s != t) A1 A2 n1 c1 n2 c2 x2 w2 Y2.out)
  go_wp2_with fail
  refine MK.out.mono ?_
  rintro e w4 ⟨A4, n4, c4, x4, A5, n5, c5, x5, rfl, hN4, hN5, hb⟩
  have N4 := Lib.hid hN4
  have N5 := Lib.hid hN5
  have R5 := Lib.hid (R2.out.keep hb)
  have B5 := Lib.hid (B2.out.trans (hb.mono B2.out.size))
  obtain ⟨r0, r1, r2, f0, f1, f2⟩ := R5.out.facts
  clear hN4 hN5 hb R2 B2 MK
  go_wp2
  refine bodyPost_ret (v := .tuple #[.agg #[.bool false, .slice A4 n4 c4, .slice A5 n5 c5], .int .i64 8]) (by simp [results, Tryz.results18, go_sem, r0, r1, r2]) rfl ?_
  exact giveFrE (t := ⟨false, 0, 0⟩) (k := 8) B5.out (Nat.le_refl _) R5.out N4.out N5.out
/-- A call hands back a fraction with its fields. -/
def GivesB (s : Bool) (p q : Nat) (w : World) (e : Ending) (w' : World) : Prop :=
  ∃ A n c xs B m d ys, e = .returned (.agg #[.bool s, .slice A n c, .slice B m d]) ∧ Num w' A n c xs p ∧ Num w' B m d ys q ∧ Below w.heap.size w w'
def GivesBE (s : Bool) (p q : Nat) (k : Int) (w : World) (e : Ending) (w' : World) : Prop :=
  ∃ A n c xs B m d ys, e = .returned (.tuple #[.agg #[.bool s, .slice A n c, .slice B m d], .int .i64 k]) ∧ Num w' A n c xs p ∧ Num w' B m d ys q ∧ Below w.heap.size w w'
theorem GivesFr.b {t : Fr} {s : Bool} {p q : Nat} {w w' : World} {e : Ending} (h : t = ⟨s, p, q⟩) (g : GivesFr t w e w') : GivesB s p q w e w' := by
  subst h
  exact g
theorem GivesFrE.b {t : Fr} {s : Bool} {p q : Nat} {k : Int} {w w' : World} {e : Ending} (h : t = ⟨s, p, q⟩) (g : GivesFrE t k w e w') : GivesBE s p q k w e w' := by
  subst h
  exact g
theorem ok_of {s : Bool} {p q : Nat} (hq : 0 < q) (hg : Nat.gcd p q = 1) (hp : 0 < p) : Fr.Ok ⟨s, p, q⟩ := ⟨hq, hg, fun _ => hp⟩
theorem lt_pow1 {a : Nat} (h : a < 4294967296) : a < 4294967296 ^ 1 := by rw [Nat.pow_one]; exact h
theorem new13 (w : World) : Calls Tryz.prog 18 #[.int .i64 1, .int .i64 3] w (GivesBE false 1 3 0 w) :=
  (new_any 1 3 (by decide) (by decide) (by decide) (by decide) (by decide) w false false rfl rfl).mono fun _ _ g => g.b (by simp [Fr.mk'])
theorem new16 (w : World) : Calls Tryz.prog 18 #[.int .i64 1, .int .i64 6] w (GivesBE false 1 6 0 w) :=
  (new_any 1 6 (by decide) (by decide) (by decide) (by decide) (by decide) w false false rfl rfl).mono fun _ _ g => g.b (by simp [Fr.mk'])
theorem new12 (w : World) : Calls Tryz.prog 18 #[.int .i64 1, .int .i64 2] w (GivesBE false 1 2 0 w) :=
  (new_any 1 2 (by decide) (by decide) (by decide) (by decide) (by decide) w false false rfl rfl).mono fun _ _ g => g.b (by simp [Fr.mk'])
theorem new10 (w : World) : Calls Tryz.prog 18 #[.int .i64 1, .int .i64 0] w (GivesBE false 0 0 8 w) :=
  (new_zero 1 0 (by decide) (by decide) rfl w false false rfl rfl).mono fun _ _ g => g
theorem new64 (w : World) : Calls Tryz.prog 18 #[.int .i64 6, .int .i64 (-4)] w (GivesBE true 3 2 0 w) :=
  (new_any 6 (-4) (by decide) (by decide) (by decide) (by decide) (by decide) w false true rfl rfl).mono fun _ _ g => g.b (by simp [Fr.mk'])
theorem neg12 {A B : Option Addr} {n c m d : Nat} {xs ys : List Nat} {w : World} (hx : Num w A n c xs 1) (hy : Num w B m d ys 2) :
    Calls Tryz.prog 20 #[.agg #[.bool false, .slice A n c, .slice B m d]] w (GivesB true 1 2 w) :=
  (negFr_any false A B n c m d 1 2 1 xs ys w hx hy (lt_pow1 (by decide)) (lt_pow1 (by decide)) (by decide)).mono fun _ _ g => g.b (by simp [Fr.neg])
theorem floor12 {A B : Option Addr} {n c m d : Nat} {xs ys : List Nat} {w : World} (hx : Num w A n c xs 1) (hy : Num w B m d ys 2) :
    Calls Tryz.prog 19 #[.agg #[.bool true, .slice A n c, .slice B m d]] w (Gives (.tuple #[.int .i64 (-1), .bool true]) w) :=
  (floor_any true A B n c m d 1 2 1 xs ys w hx hy (by decide) (lt_pow1 (by decide)) (lt_pow1 (by decide)) (by decide)).mono fun _ _ g => g.eq (by
    have : rv2 true 1 2 true = (-1, true) := by simp [rv2, rsz, ws, Fr.num]
    rw [this])
theorem add_lit {A B A' B' : Option Addr} {n c m d n' c' m' d' : Nat} {xs ys xs' ys' : List Nat} {w : World} (hx : Num w A n c xs 1) (hy : Num w B m d ys 3) (hx' : Num w A' n' c' xs' 1) (hy' : Num w B' m' d' ys' 6) :
    Calls Tryz.prog 21 #[.agg #[.bool false, .slice A n c, .slice B m d], .agg #[.bool false, .slice A' n' c', .slice B' m' d']] w (GivesB false 1 2 w) :=
  (addFr_any false false A B A' B' n c m d n' c' m' d' 1 3 1 6 1 xs ys xs' ys' w hx hy hx' hy' (ok_of (by decide) (by decide) (by decide)) (ok_of (by decide) (by decide) (by decide)) (lt_pow1 (by decide)) (lt_pow1 (by decide)) (lt_pow1 (by decide)) (lt_pow1 (by decide)) (by decide)).mono fun _ _ g => g.b (by simp [Fr.add, Fr.ofInt, Fr.mk', Fr.n, Fr.num])
theorem three_text : isText ([51] : List UInt8) 3 := ⟨[51], rfl, by decide, by intro c hc; simp at hc; subst hc; exact ⟨by decide, by decide⟩, .inl (.inr (by decide)), rfl⟩
theorem same12 {A B A' B' : Option Addr} {n c m d n' c' m' d' : Nat} {xs ys xs' ys' : List Nat} {w : World} (hx : Num w A n c xs 1) (hy : Num w B m d ys 2) (hx' : Num w A' n' c' xs' 1) (hy' : Num w B' m' d' ys' 2) :
    Calls Tryz.prog 11 #[.agg #[.bool false, .slice A n c, .slice B m d], .agg #[.bool false, .slice A' n' c', .slice B' m' d']] w (Gives (.bool true) w) :=
  sameFr_yes (t := ⟨false, 1, 2⟩) rfl rfl hx hy hx' hy'
theorem format32 {A B : Option Addr} {n c m d : Nat} {xs ys : List Nat} {w : World} (hx : Num w A n c xs 3) (hy : Num w B m d ys 2) :
    Calls Tryz.prog 7 #[.agg #[.bool true, .slice A n c, .slice B m d]] w (Gives (.string ⟨#[45, 51, 47, 50]⟩) w) :=
  (fformat_any true A B n c m d 3 2 1 xs ys w hx hy (lt_pow1 (by decide)) (lt_pow1 (by decide)) (by decide)).mono fun _ _ ⟨s, h, ht, hb⟩ => by
    have k : fText true 3 2 ([45, 51, 47, 50] : List UInt8) := ⟨[51], [50], three_text, fun _ => two_text, rfl⟩
    have e := fText_inj ht k
    obtain ⟨⟨l⟩⟩ := s
    simp only at e
    subst e
    exact ⟨h, hb⟩
theorem cmp_lit {A B A' B' : Option Addr} {n c m d n' c' m' d' : Nat} {xs xs' : List Nat} {w : World} (hx : Num w A n c xs 3) (hx' : Num w A' n' c' xs' 1) :
    Calls Tryz.prog 22 #[.agg #[.bool true, .slice A n c, .slice B m d], .agg #[.bool false, .slice A' n' c', .slice B' m' d']] w (Gives (.int .i64 (-1)) w) :=
  fcmp_lt true false A B A' B' n c m d n' c' m' d' 3 1 1 xs xs' w hx hx' (lt_pow1 (by decide)) (lt_pow1 (by decide)) (by decide) (-1) 1 rfl rfl (by decide)
end Go.Proofs.YtbllnkhbahenkaaGreatDoor
/- awake of chapter 2's law: no claim of its own. -/
namespace Go.Proofs.YtbllnkhbahenkaaGreatDoor
open Go.RowKit
set_option maxRecDepth 100000 in
set_option maxHeartbeats 2000000 in
theorem awake2 (w : World) : Calls Tryz.prog 6 #[] w (Gives (.bool true) w) := by
  have B0 := Lib.hid (Below.refl w.heap.size w)
  have J1 := Lib.hid new13
  have J2 := Lib.hid new16
  have J3 := Lib.hid new12
  have J4 := Lib.hid new10
  have J5 := Lib.hid parse_lit
  have J6 := Lib.hid new64
  go_enter Tryz.func6, Tryz.ntmps6
  go_wp2_with fail
  refine (J1.out _).mono ?_
  rintro e w1 ⟨A1, n1, c1, x1, D1, m1, d1, y1, rfl, hN, hM, hb⟩
  have ba : Below w1.heap.size w1 (w1.alloc (.cells #[.bool false, .slice A1 n1 c1, .slice D1 m1 d1] 25)) := (Below.refl _ _).alloc (Nat.le_refl _) _
  have hf := FB.new w1 false A1 n1 c1 D1 m1 d1
  have P1 := Lib.hid (hN.keep ba)
  have Q1 := Lib.hid (hM.keep ba)
  have F1 := Lib.hid hf
  have B1 := Lib.hid ((B0.out.trans (hb.mono B0.out.size)).trans (ba.mono (Nat.le_trans B0.out.size hb.size)))
  clear hN hM hb ba hf B0 J1 
  go_wp2_with fail
  obtain ⟨v1, hv⟩ : ∃ v, w1.alloc (.cells #[.bool false, .slice A1 n1 c1, .slice D1 m1 d1] 25) = v := ⟨_, rfl⟩
  obtain ⟨g1, hg⟩ : ∃ g, w1.heap.size = g := ⟨_, rfl⟩
  rw [hv, hg]
  rw [hv] at P1 Q1 F1 B1
  rw [hg] at F1
  clear hv hg
  refine (J2.out _).mono ?_
  rintro e w2 ⟨A2, n2, c2, x2, D2, m2, d2, y2, rfl, hN, hM, hb⟩
  have ba : Below w2.heap.size w2 (w2.alloc (.cells #[.bool false, .slice A2 n2 c2, .slice D2 m2 d2] 25)) := (Below.refl _ _).alloc (Nat.le_refl _) _
  have hf := FB.new w2 false A2 n2 c2 D2 m2 d2
  have R2 := Lib.hid (hN.keep ba)
  have S2 := Lib.hid (hM.keep ba)
  have G2 := Lib.hid hf
  have P2 := Lib.hid ((P1.out.keep hb).keep ba)
  have Q2 := Lib.hid ((Q1.out.keep hb).keep ba)
  have F2 := Lib.hid ((F1.out.keep hb).keep ba)
  have B2 := Lib.hid ((B1.out.trans (hb.mono B1.out.size)).trans (ba.mono (Nat.le_trans B1.out.size hb.size)))
  clear hN hM hb ba hf B1 J2 P1 Q1 F1
  go_wp2_with fail
  obtain ⟨v2, hv⟩ : ∃ v, w2.alloc (.cells #[.bool false, .slice A2 n2 c2, .slice D2 m2 d2] 25) = v := ⟨_, rfl⟩
  obtain ⟨g2, hg⟩ : ∃ g, w2.heap.size = g := ⟨_, rfl⟩
  rw [hv, hg]
  rw [hv] at P2 Q2 F2 R2 S2 G2 B2
  rw [hg] at G2
  clear hv hg
  refine (J3.out _).mono ?_
  rintro e w3 ⟨A3, n3, c3, x3, D3, m3, d3, y3, rfl, hN, hM, hb⟩
  have ba : Below w3.heap.size w3 (w3.alloc (.cells #[.bool false, .slice A3 n3 c3, .slice D3 m3 d3] 25)) := (Below.refl _ _).alloc (Nat.le_refl _) _
  have hf := FB.new w3 false A3 n3 c3 D3 m3 d3
  have U3 := Lib.hid (hN.keep ba)
  have V3 := Lib.hid (hM.keep ba)
  have H3 := Lib.hid hf
  have P3 := Lib.hid ((P2.out.keep hb).keep ba)
  have Q3 := Lib.hid ((Q2.out.keep hb).keep ba)
  have F3 := Lib.hid ((F2.out.keep hb).keep ba)
  have R3 := Lib.hid ((R2.out.keep hb).keep ba)
  have S3 := Lib.hid ((S2.out.keep hb).keep ba)
  have G3 := Lib.hid ((G2.out.keep hb).keep ba)
  have B3 := Lib.hid ((B2.out.trans (hb.mono B2.out.size)).trans (ba.mono (Nat.le_trans B2.out.size hb.size)))
  clear hN hM hb ba hf B2 J3 P2 Q2 F2 R2 S2 G2
  go_wp2_with fail
  obtain ⟨v3, hv⟩ : ∃ v, w3.alloc (.cells #[.bool false, .slice A3 n3 c3, .slice D3 m3 d3] 25) = v := ⟨_, rfl⟩
  obtain ⟨g3, hg⟩ : ∃ g, w3.heap.size = g := ⟨_, rfl⟩
  rw [hv, hg]
  rw [hv] at P3 Q3 F3 R3 S3 G3 U3 V3 H3 B3
  rw [hg] at H3
  clear hv hg
  refine (J4.out _).mono ?_
  rintro e w4 ⟨A4, n4, c4, x4, D4, m4, d4, y4, rfl, hN, hM, hb⟩
  have ba : Below w4.heap.size w4 (w4.alloc (.cells #[.bool false, .slice A4 n4 c4, .slice D4 m4 d4] 25)) := (Below.refl _ _).alloc (Nat.le_refl _) _
  have hf := FB.new w4 false A4 n4 c4 D4 m4 d4
  have P4 := Lib.hid ((P3.out.keep hb).keep ba)
  have Q4 := Lib.hid ((Q3.out.keep hb).keep ba)
  have F4 := Lib.hid ((F3.out.keep hb).keep ba)
  have R4 := Lib.hid ((R3.out.keep hb).keep ba)
  have S4 := Lib.hid ((S3.out.keep hb).keep ba)
  have G4 := Lib.hid ((G3.out.keep hb).keep ba)
  have U4 := Lib.hid ((U3.out.keep hb).keep ba)
  have V4 := Lib.hid ((V3.out.keep hb).keep ba)
  have H4 := Lib.hid ((H3.out.keep hb).keep ba)
  have B4 := Lib.hid ((B3.out.trans (hb.mono B3.out.size)).trans (ba.mono (Nat.le_trans B3.out.size hb.size)))
  clear hN hM hb ba hf B3 J4 P3 Q3 F3 R3 S3 G3 U3 V3 H3
  obtain ⟨Ha, Hb, Hc, _, _, _⟩ := H4.out.facts
  go_wp2_with fail
  clear Ha Hb Hc
  obtain ⟨v4, hv⟩ : ∃ v, w4.alloc (.cells #[.bool false, .slice A4 n4 c4, .slice D4 m4 d4] 25) = v := ⟨_, rfl⟩
  obtain ⟨g4, hg⟩ : ∃ g, w4.heap.size = g := ⟨_, rfl⟩
  rw [hv, hg]
  rw [hv] at P4 Q4 F4 R4 S4 G4 U4 V4 H4 B4
  clear hv hg
  refine (neg12 U4.out V4.out).mono ?_
  rintro e w5 ⟨A5, n5, c5, x5, D5, m5, d5, y5, rfl, hN, hM, hb⟩
  have FL := Lib.hid (floor12 hN hM)
  have P5 := Lib.hid (P4.out.keep hb)
  have Q5 := Lib.hid (Q4.out.keep hb)
  have F5 := Lib.hid (F4.out.keep hb)
  have R5 := Lib.hid (R4.out.keep hb)
  have S5 := Lib.hid (S4.out.keep hb)
  have G5 := Lib.hid (G4.out.keep hb)
  have U5 := Lib.hid (U4.out.keep hb)
  have V5 := Lib.hid (V4.out.keep hb)
  have H5 := Lib.hid (H4.out.keep hb)
  have B5 := Lib.hid (B4.out.trans (hb.mono B4.out.size))
  clear hN hM hb B4 P4 Q4 F4 R4 S4 G4 U4 V4 H4
  go_wp2_with fail
  refine FL.out.mono ?_
  rintro e w6 ⟨rfl, hb⟩
  have P6 := Lib.hid (P5.out.keep hb)
  have Q6 := Lib.hid (Q5.out.keep hb)
  have F6 := Lib.hid (F5.out.keep hb)
  have R6 := Lib.hid (R5.out.keep hb)
  have S6 := Lib.hid (S5.out.keep hb)
  have G6 := Lib.hid (G5.out.keep hb)
  have U6 := Lib.hid (U5.out.keep hb)
  have V6 := Lib.hid (V5.out.keep hb)
  have H6 := Lib.hid (H5.out.keep hb)
  have B6 := Lib.hid (B5.out.trans (hb.mono B5.out.size))
  clear hb FL B5 P5 Q5 F5 R5 S5 G5 U5 V5 H5
  go_wp2_with fail
  refine (J5.out _).mono ?_
  rintro e w7 ⟨A7, n7, c7, x7, D7, m7, d7, y7, rfl, hN, hM, hb⟩
  have ba : Below w7.heap.size w7 (w7.alloc (.cells #[.bool false, .slice A7 n7 c7, .slice D7 m7 d7] 25)) := (Below.refl _ _).alloc (Nat.le_refl _) _
  have hf := FB.new w7 false A7 n7 c7 D7 m7 d7
  have P7 := Lib.hid ((P6.out.keep hb).keep ba)
  have Q7 := Lib.hid ((Q6.out.keep hb).keep ba)
  have F7 := Lib.hid ((F6.out.keep hb).keep ba)
  have R7 := Lib.hid ((R6.out.keep hb).keep ba)
  have S7 := Lib.hid ((S6.out.keep hb).keep ba)
  have G7 := Lib.hid ((G6.out.keep hb).keep ba)
  have U7 := Lib.hid ((U6.out.keep hb).keep ba)
  have V7 := Lib.hid ((V6.out.keep hb).keep ba)
  have H7 := Lib.hid ((H6.out.keep hb).keep ba)
  have B7 := Lib.hid ((B6.out.trans (hb.mono B6.out.size)).trans (ba.mono (Nat.le_trans B6.out.size hb.size)))
  clear hN hM hb ba hf B6 J5 P6 Q6 F6 R6 S6 G6 U6 V6 H6
  go_wp2_with fail
  obtain ⟨v7, hv⟩ : ∃ v, w7.alloc (.cells #[.bool false, .slice A7 n7 c7, .slice D7 m7 d7] 25) = v := ⟨_, rfl⟩
  obtain ⟨g7, hg⟩ : ∃ g, w7.heap.size = g := ⟨_, rfl⟩
  rw [hv, hg]
  rw [hv] at P7 Q7 F7 R7 S7 G7 U7 V7 H7 B7
  clear hv hg
  refine (J6.out _).mono ?_
  rintro e w8 ⟨A8, n8, c8, x8, D8, m8, d8, y8, rfl, hN, hM, hb⟩
  have ba : Below w8.heap.size w8 (w8.alloc (.cells #[.bool true, .slice A8 n8 c8, .slice D8 m8 d8] 25)) := (Below.refl _ _).alloc (Nat.le_refl _) _
  have hf := FB.new w8 true A8 n8 c8 D8 m8 d8
  have X8 := Lib.hid (hN.keep ba)
  have Y8 := Lib.hid (hM.keep ba)
  have K8 := Lib.hid hf
  have P8 := Lib.hid ((P7.out.keep hb).keep ba)
  have Q8 := Lib.hid ((Q7.out.keep hb).keep ba)
  have F8 := Lib.hid ((F7.out.keep hb).keep ba)
  have R8 := Lib.hid ((R7.out.keep hb).keep ba)
  have S8 := Lib.hid ((S7.out.keep hb).keep ba)
  have G8 := Lib.hid ((G7.out.keep hb).keep ba)
  have U8 := Lib.hid ((U7.out.keep hb).keep ba)
  have V8 := Lib.hid ((V7.out.keep hb).keep ba)
  have H8 := Lib.hid ((H7.out.keep hb).keep ba)
  have B8 := Lib.hid ((B7.out.trans (hb.mono B7.out.size)).trans (ba.mono (Nat.le_trans B7.out.size hb.size)))
  clear hN hM hb ba hf B7 J6 P7 Q7 F7 R7 S7 G7 U7 V7 H7
  go_wp2_with fail
  obtain ⟨v8, hv⟩ : ∃ v, w8.alloc (.cells #[.bool true, .slice A8 n8 c8, .slice D8 m8 d8] 25) = v := ⟨_, rfl⟩
  obtain ⟨g8, hg⟩ : ∃ g, w8.heap.size = g := ⟨_, rfl⟩
  rw [hv, hg]
  rw [hv] at P8 Q8 F8 R8 S8 G8 U8 V8 H8 X8 Y8 K8 B8
  rw [hg] at K8
  clear hv hg
  have zB := B8.out.trans ((Below.refl v8.heap.size v8).drew.mono B8.out.size)
  have zP := P8.out.drew_
  have zQ := Q8.out.drew_
  have zR := R8.out.drew_
  have zS := S8.out.drew_
  have zU := U8.out.drew_
  have zV := V8.out.drew_
  have zX := X8.out.drew_
  have zY := Y8.out.drew_
  have zF := F8.out.drew
  have zG := G8.out.drew
  have zH := H8.out.drew
  have zK := K8.out.drew
  clear P8 Q8 F8 R8 S8 G8 U8 V8 H8 X8 Y8 K8 B8
  obtain ⟨Fa, Fb, Fc, _, _, _⟩ := zF.facts
  obtain ⟨Ga, Gb, Gc, _, _, _⟩ := zG.facts
  obtain ⟨Ha, Hb, Hc, _, _, _⟩ := zH.facts
  obtain ⟨Ka, Kb, Kc, _, _, _⟩ := zK.facts
  go_region_held3 (fun w' => w'.cell? ⟨g1, 0, none⟩ = some (.bool false) ∧ w'.cell? ⟨g1, 1, none⟩ = some (.slice A1 n1 c1) ∧ w'.cell? ⟨g1, 2, none⟩ = some (.slice D1 m1 d1) ∧ w'.cell? ⟨g2, 0, none⟩ = some (.bool false) ∧ w'.cell? ⟨g2, 1, none⟩ = some (.slice A2 n2 c2) ∧ w'.cell? ⟨g2, 2, none⟩ = some (.slice D2 m2 d2) ∧ w'.cell? ⟨g3, 0, none⟩ = some (.bool false) ∧ w'.cell? ⟨g3, 1, none⟩ = some (.slice A3 n3 c3) ∧ w'.cell? ⟨g3, 2, none⟩ = some (.slice D3 m3 d3) ∧ w'.cell? ⟨g8, 0, none⟩ = some (.bool true) ∧ w'.cell? ⟨g8, 1, none⟩ = some (.slice A8 n8 c8) ∧ w'.cell? ⟨g8, 2, none⟩ = some (.slice D8 m8 d8)) (go_keep) (first | (go_at_call 21; (with_reducible refine (add_lit zP zQ zR zS).mono ?_); rintro e wa ⟨Aa, na, ca, xa, Da, ma, da, ya, rfl, hN, hM, hb⟩; replace zP := zP.keep hb; replace zQ := zQ.keep hb; replace zR := zR.keep hb; replace zS := zS.keep hb; replace zU := zU.keep hb; replace zV := zV.keep hb; replace zX := zX.keep hb; replace zY := zY.keep hb; replace zF := zF.keep hb; replace zG := zG.keep hb; replace zH := zH.keep hb; replace zK := zK.keep hb; replace zB := zB.trans (hb.mono zB.size); clear hb; obtain ⟨Fa, Fb, Fc, _, _, _⟩ := zF.facts; obtain ⟨Ga, Gb, Gc, _, _, _⟩ := zG.facts; obtain ⟨Ha, Hb, Hc, _, _, _⟩ := zH.facts; obtain ⟨Ka, Kb, Kc, _, _, _⟩ := zK.facts) | (go_at_call 11; (with_reducible refine (same12 hN hM zU zV).mono ?_); rintro e wb ⟨rfl, hb⟩; replace zP := zP.keep hb; replace zQ := zQ.keep hb; replace zR := zR.keep hb; replace zS := zS.keep hb; replace zU := zU.keep hb; replace zV := zV.keep hb; replace zX := zX.keep hb; replace zY := zY.keep hb; replace zF := zF.keep hb; replace zG := zG.keep hb; replace zH := zH.keep hb; replace zK := zK.keep hb; replace zB := zB.trans (hb.mono zB.size); clear hb; obtain ⟨Fa, Fb, Fc, _, _, _⟩ := zF.facts; obtain ⟨Ga, Gb, Gc, _, _, _⟩ := zG.facts; obtain ⟨Ha, Hb, Hc, _, _, _⟩ := zH.facts; obtain ⟨Ka, Kb, Kc, _, _, _⟩ := zK.facts) | (go_at_call 7; (with_reducible refine (format32 zX zY).mono ?_); rintro e wc ⟨rfl, hb⟩; replace zP := zP.keep hb; replace zQ := zQ.keep hb; replace zR := zR.keep hb; replace zS := zS.keep hb; replace zU := zU.keep hb; replace zV := zV.keep hb; replace zX := zX.keep hb; replace zY := zY.keep hb; replace zF := zF.keep hb; replace zG := zG.keep hb; replace zH := zH.keep hb; replace zK := zK.keep hb; replace zB := zB.trans (hb.mono zB.size); clear hb; obtain ⟨Fa, Fb, Fc, _, _, _⟩ := zF.facts; obtain ⟨Ga, Gb, Gc, _, _, _⟩ := zG.facts; obtain ⟨Ha, Hb, Hc, _, _, _⟩ := zH.facts; obtain ⟨Ka, Kb, Kc, _, _, _⟩ := zK.facts) | (go_at_call 22; (with_reducible refine (cmp_lit zX zP).mono ?_); rintro e wd ⟨rfl, hb⟩; replace zP := zP.keep hb; replace zQ := zQ.keep hb; replace zR := zR.keep hb; replace zS := zS.keep hb; replace zU := zU.keep hb; replace zV := zV.keep hb; replace zX := zX.keep hb; replace zY := zY.keep hb; replace zF := zF.keep hb; replace zG := zG.keep hb; replace zH := zH.keep hb; replace zK := zK.keep hb; replace zB := zB.trans (hb.mono zB.size); clear hb; obtain ⟨Fa, Fb, Fc, _, _, _⟩ := zF.facts; obtain ⟨Ga, Gb, Gc, _, _, _⟩ := zG.facts; obtain ⟨Ha, Hb, Hc, _, _, _⟩ := zH.facts; obtain ⟨Ka, Kb, Kc, _, _, _⟩ := zK.facts))
  all_goals go_wp2
  all_goals go_ret
  all_goals exact ⟨rfl, zB⟩
end Go.Proofs.YtbllnkhbahenkaaGreatDoor
