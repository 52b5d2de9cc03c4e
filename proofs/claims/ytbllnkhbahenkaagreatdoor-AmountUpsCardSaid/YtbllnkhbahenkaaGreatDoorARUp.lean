/- The mathematics of Up and the contract of the reference's Up: no claim of its own. -/
import Derived.Test.YtbllnkhbahenkaaGreatDoorAUp
import Derived.Test.YtbllnkhbahenkaaGreatDoorRRound
import Derived.Test.YtbllnkhbahenkaaGreatDoorTwo
namespace Go.Proofs.YtbllnkhbahenkaaGreatDoor
open Go.RowKit
theorem up_true {p q : Nat} (h : 0 < p) : upR true p q = (0, 4) := upR_neg (by unfold sgn; rw [if_neg (by omega)]; decide)
theorem sgn_false (p : Nat) : 0 ≤ sgn false p := by unfold sgn; split <;> simp
theorem up_false (p q : Nat) : upR false p q = if rsz p q true ≤ 1000000 then ((rsz p q true : Int), 0) else (0, 4) := by
  generalize hR : rsz p q true = R
  have e : rv2 false p q (!false) = ws false (if R < 18446744073709551616 then R else 0) (decide (R < 18446744073709551616)) := by
    show rv2 false p q true = _
    unfold rv2; rw [hR]
  by_cases h1 : R < 18446744073709551616
  · rw [if_pos h1, decide_eq_true h1] at e
    by_cases h2 : 9223372036854775807 < R
    · rw [ws_bigp R h2] at e
      rw [upR_no (by rw [e]), if_neg (by omega)]
    · rw [ws_okp R (by omega)] at e
      rw [upR_yes (by rw [e]) (sgn_false p), e]
      by_cases h3 : R ≤ 1000000
      · rw [if_pos h3]
        show (chkd (R : Int), chk (R : Int)) = _
        unfold chkd; rw [chk_ok (by omega) (by omega), if_pos rfl]
      · rw [if_neg h3]
        show (chkd (R : Int), chk (R : Int)) = _
        unfold chkd; rw [chk_bad (by omega), if_neg (by decide)]
  · rw [if_neg h1, decide_eq_false h1, ws_no] at e
    rw [upR_no (by rw [e]), if_neg (by omega)]
theorem rsz_up (p q : Nat) (hq : 0 < q) : p ≤ rsz p q true * q ∧ rsz p q true * q < p + q := by
  have h1 := Nat.div_add_mod p q
  have h2 := Nat.mod_lt p hq
  rw [Nat.mul_comm] at h1
  unfold rsz
  by_cases h : 0 < p % q
  · rw [if_pos ⟨rfl, h⟩, Nat.add_mul, Nat.one_mul]; omega
  · rw [if_neg (fun g => h g.2)]; omega
/-- How the least integer lies to the fraction, and the one below it. -/
theorem up_cmp {p q : Nat} (hq : Fr.Ok ⟨false, p, q⟩) : 0 ≤ cmpFr ⟨false, rsz p q true, 1⟩ ⟨false, p, q⟩ ∧ cmpFr ⟨decide ((rsz p q true : Int) - 1 < 0), ((rsz p q true : Int) - 1).natAbs, 1⟩ ⟨false, p, q⟩ < 0 := by
  obtain ⟨h1, h2⟩ := rsz_up p q hq.1
  rw [cmpFr_eq hq, cmpFr_eq hq]
  generalize rsz p q true = R at *
  have e1 : (Fr.n ⟨false, R, 1⟩) = (R : Int) := rfl
  have e2 : (Fr.n ⟨decide ((R : Int) - 1 < 0), ((R : Int) - 1).natAbs, 1⟩) = (R : Int) - 1 := Fr.num_ofInt _
  have e3 : (Fr.n ⟨false, p, q⟩) = (p : Int) := rfl
  have e4 : ((R * q : Nat) : Int) = (R : Int) * (q : Int) := Int.natCast_mul _ _
  rw [e1, e2, e3]
  simp only [Int.sub_mul, ← e4, Int.one_mul]
  have : (((1 : Nat) : Int)) = 1 := rfl
  rw [this, Int.mul_one]
  generalize R * q = X at *
  constructor
  · rw [if_neg (by omega)]; split <;> omega
  · rw [if_pos (by omega)]; decide
theorem up_cases {s : Bool} {p q : Nat} (ok : Fr.Ok ⟨s, p, q⟩) : upR s p q = (0, 4) ∨ ∃ V : Nat, V ≤ 1000000 ∧ upR s p q = ((V : Int), 0) ∧ 0 ≤ cmpFr ⟨false, V, 1⟩ ⟨s, p, q⟩ ∧ cmpFr ⟨decide ((V : Int) - 1 < 0), ((V : Int) - 1).natAbs, 1⟩ ⟨s, p, q⟩ < 0 := by
  cases s
  · rw [up_false]
    by_cases h : rsz p q true ≤ 1000000
    · right
      obtain ⟨a, b⟩ := up_cmp ok
      exact ⟨_, h, if_pos h, a, b⟩
    · left; exact if_neg h
  · left; exact up_true (ok.2.2 rfl)
theorem rv2_nonneg {s : Bool} {p q : Nat} (ok : Fr.Ok ⟨s, p, q⟩) (hg : 0 ≤ sgn s p) : 0 ≤ (rv2 s p q (!s)).1 := by
  cases s
  · show 0 ≤ (rv2 false p q true).1
    have h : ∀ (x : Nat) (f : Bool), 0 ≤ (ws false x f).1 := fun x f => by
      unfold ws; split
      · exact Int.le_refl _
      · exact Int.natCast_nonneg _
    exact h _ _
  · have := ok.2.2 rfl
    simp only at this
    unfold sgn at hg
    rw [if_neg (by omega)] at hg
    exact absurd hg (by decide)
set_option maxRecDepth 100000 in
set_option maxHeartbeats 1000000 in
theorem rup_any (s : Bool) (A B : Option Addr) (n c m d p q i : Nat) (xs ys : List Nat) (w : World) (hx : Num w A n c xs p) (hy : Num w B m d ys q) (ok : Fr.Ok ⟨s, p, q⟩) (pp : p < 4294967296 ^ i) (pq : q < 4294967296 ^ i) (hi : i ≤ 300000) :
    Calls Tryz.prog 15 #[.agg #[.bool s, .slice A n c, .slice B m d]] w (Gives (.tuple #[.int .i64 (upR s p q).1, .int .i64 (upR s p q).2]) w) := by
  have b0 := below_new w (.cells #[.bool s, .slice A n c, .slice B m d] 25)
  have H0 := FB.new w s A n c B m d
  obtain ⟨h0, h1, h2, _, _, _⟩ := H0.facts
  have CE := Lib.hid (rceil_any s A B n c m d p q i xs ys _ (hx.keep b0) (hy.keep b0) ok.1 pp pq hi)
  have SG := Lib.hid (fun W (hb : Below w.heap.size w W) => rsignFr_any s A B n c m d p xs W (hx.keep hb) ok.2.2 _ rfl)
  have BH := Lib.hid b0
  have HF := Lib.hid H0
  have U1 := Lib.hid (upR_no (s := s) (p := p) (q := q))
  have U2 := Lib.hid (upR_neg (s := s) (p := p) (q := q))
  have U3 := Lib.hid (upR_yes (s := s) (p := p) (q := q))
  have U4 := Lib.hid (rv2_nonneg ok)
  generalize upR s p q = U at *
  generalize (rv2 s p q (!s)).1 = r at *
  have hsr := sgn_range s p
  cases hz : (rv2 s p q (!s)).2
  · have E := Lib.hid (U1.out hz)
    rw [hz] at CE
    clear hx hy pp pq b0 H0 U1 U2 U3 hz ok U4
    generalize sgn s p = g at *
    go_enter Tryz.func15, Tryz.ntmps15
    go_wp2_with fail
    refine CE.out.mono ?_
    rintro e w1 ⟨rfl, hb⟩
    have B1 := Lib.hid (BH.out.trans (hb.mono BH.out.size))
    obtain ⟨k0, k1, k2, _, _, _⟩ := (HF.out.keep hb).facts
    have SG1 := Lib.hid (SG.out w1 B1.out)
    clear hb SG
    by_cases hg : g < 0
    · go_wp2_with fail
      refine SG1.out.mono ?_
      rintro e w2 ⟨rfl, hb⟩
      have B2 := Lib.hid (B1.out.trans (hb.mono B1.out.size))
      clear hb
      go_wp2
      go_ret2
      rw [E.out]
      exact ⟨rfl, B2.out⟩
    · go_wp2_with fail
      refine SG1.out.mono ?_
      rintro e w2 ⟨rfl, hb⟩
      have B2 := Lib.hid (B1.out.trans (hb.mono B1.out.size))
      clear hb
      go_wp2
      go_ret2
      rw [E.out]
      exact ⟨rfl, B2.out⟩
  · have U3' := Lib.hid (U3.out hz)
    rw [hz] at CE
    clear hx hy pp pq b0 H0 U1 U3 hz ok
    generalize sgn s p = g at *
    go_enter Tryz.func15, Tryz.ntmps15
    go_wp2_with fail
    refine CE.out.mono ?_
    rintro e w1 ⟨rfl, hb⟩
    have B1 := Lib.hid (BH.out.trans (hb.mono BH.out.size))
    obtain ⟨k0, k1, k2, _, _, _⟩ := (HF.out.keep hb).facts
    have SG1 := Lib.hid (SG.out w1 B1.out)
    clear hb SG
    by_cases hg : g < 0
    · have E := Lib.hid (U2.out hg)
      clear U2 U3' U4
      go_wp2_with fail
      refine SG1.out.mono ?_
      rintro e w2 ⟨rfl, hb⟩
      have B2 := Lib.hid (B1.out.trans (hb.mono B1.out.size))
      clear hb
      go_wp2
      go_ret2
      rw [E.out]
      exact ⟨rfl, B2.out⟩
    · have E := Lib.hid (U3'.out (by omega))
      have hr := U4.out (by omega)
      clear U2 U3' U4
      by_cases hm : 1000000 < r
      · have E2 : Hid (U = (0, 4)) := Lib.hid (by rw [E.out]; unfold chkd; rw [chk_bad (.inr hm), if_neg (by decide)])
        clear E
        go_wp2_with fail
        refine SG1.out.mono ?_
        rintro e w2 ⟨rfl, hb⟩
        have B2 := Lib.hid (B1.out.trans (hb.mono B1.out.size))
        clear hb
        go_wp2
        go_ret2
        rw [E2.out]
        exact ⟨rfl, B2.out⟩
      · have E2 : Hid (U = (r, 0)) := Lib.hid (by rw [E.out]; unfold chkd; rw [chk_ok hr (by omega), if_pos rfl])
        clear E
        go_wp2_with fail
        refine SG1.out.mono ?_
        rintro e w2 ⟨rfl, hb⟩
        have B2 := Lib.hid (B1.out.trans (hb.mono B1.out.size))
        clear hb
        go_wp2
        go_ret2
        rw [E2.out]
        exact ⟨rfl, B2.out⟩
end Go.Proofs.YtbllnkhbahenkaaGreatDoor
