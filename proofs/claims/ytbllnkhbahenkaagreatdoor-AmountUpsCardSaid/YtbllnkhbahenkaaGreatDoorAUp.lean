/- The contract of Up: no claim of its own. -/
import Derived.Test.YtbllnkhbahenkaaGreatDoorAF
import Derived.Test.YtbllnkhbahenkaaGreatDoorRound
namespace Go.Proofs.YtbllnkhbahenkaaGreatDoor
open Go.RowKit
theorem sgn_range' (s : Bool) (p : Nat) : -1 ≤ sgn s p ∧ sgn s p ≤ 1 := by
  unfold sgn; split
  · exact ⟨by decide, by decide⟩
  · split <;> exact ⟨by decide, by decide⟩
/-- What Up answers. -/
def upR (s : Bool) (p q : Nat) : Int × Int := if (rv2 s p q (!s)).2 = false ∨ sgn s p < 0 then (0, 4) else (chkd (rv2 s p q (!s)).1, chk (rv2 s p q (!s)).1)
theorem upR_no {s : Bool} {p q : Nat} (h : (rv2 s p q (!s)).2 = false) : upR s p q = (0, 4) := by unfold upR; rw [if_pos (.inl h)]
theorem upR_neg {s : Bool} {p q : Nat} (h : sgn s p < 0) : upR s p q = (0, 4) := by unfold upR; rw [if_pos (.inr h)]
theorem upR_yes {s : Bool} {p q : Nat} (h : (rv2 s p q (!s)).2 = true) (h2 : 0 ≤ sgn s p) : upR s p q = (chkd (rv2 s p q (!s)).1, chk (rv2 s p q (!s)).1) := by
  unfold upR; rw [if_neg]; rintro (e | e)
  · rw [h] at e; cases e
  · omega
set_option maxRecDepth 100000 in
set_option maxHeartbeats 1000000 in
theorem up_any (s : Bool) (A B : Option Addr) (n c m d p q i : Nat) (xs ys : List Nat) (w : World) (hx : Num w A n c xs p) (hy : Num w B m d ys q) (hq : 0 < q) (pp : p < 4294967296 ^ i) (pq : q < 4294967296 ^ i) (hi : i ≤ 400000) :
    Calls Tryz.prog 14 #[.agg #[.bool s, .slice A n c, .slice B m d]] w (Gives (.tuple #[.int .i64 (upR s p q).1, .int .i64 (upR s p q).2]) w) := by
  have b0 := below_new w (.cells #[.bool s, .slice A n c, .slice B m d] 25)
  have H0 := FB.new w s A n c B m d
  obtain ⟨h0, h1, h2, _, _, _⟩ := H0.facts
  have CE := Lib.hid (ceil_any s A B n c m d p q i xs ys _ (hx.keep b0) (hy.keep b0) hq pp pq hi)
  have SG := Lib.hid (fun W (hb : Below w.heap.size w W) => signFr_any s A B n c m d p i xs W (hx.keep hb) pp (by omega))
  have BH := Lib.hid b0
  have HF := Lib.hid H0
  have U1 := Lib.hid (upR_no (s := s) (p := p) (q := q))
  have U2 := Lib.hid (upR_neg (s := s) (p := p) (q := q))
  have U3 := Lib.hid (upR_yes (s := s) (p := p) (q := q))
  generalize upR s p q = U at *
  generalize (rv2 s p q (!s)).1 = r at *
  cases hz : (rv2 s p q (!s)).2
  · have E := Lib.hid (U1.out hz)
    rw [hz] at CE
    clear hx hy pp pq b0 H0 U1 U2 U3 hz SG
    go_enter Tryz.func14, Tryz.ntmps14
    go_wp2_with fail
    refine CE.out.mono ?_
    rintro e w1 ⟨rfl, hb⟩
    have B1 := Lib.hid (BH.out.trans (hb.mono BH.out.size))
    clear hb
    go_wp2
    go_ret2
    rw [E.out]
    exact ⟨rfl, B1.out⟩
  · have U3' := Lib.hid (U3.out hz)
    rw [hz] at CE
    have CK := Lib.hid (fun W => checked_any r W)
    clear hx hy pp pq b0 H0 U1 U3 hz
    have hsr := sgn_range' s p
    generalize sgn s p = g at *
    go_enter Tryz.func14, Tryz.ntmps14
    go_wp2_with fail
    refine CE.out.mono ?_
    rintro e w1 ⟨rfl, hb⟩
    have B1 := Lib.hid (BH.out.trans (hb.mono BH.out.size))
    obtain ⟨k0, k1, k2, _, _, _⟩ := (HF.out.keep hb).facts
    have SG1 := Lib.hid (SG.out w1 B1.out)
    clear hb SG
    by_cases hg : g < 0
    · have E := Lib.hid (U2.out hg)
      clear U2 U3'
      go_wp2_with fail
      refine SG1.out.mono ?_
      rintro e w2 ⟨rfl, hb⟩
      have B2 := Lib.hid (B1.out.trans (hb.mono B1.out.size))
      clear hb
      go_wp2
      go_ret2
      rw [E.out]
      exact ⟨rfl, B2.out⟩
    · have E := Lib.hid (U3'.out (by omega))
      clear U2 U3'
      go_wp2_with fail
      refine SG1.out.mono ?_
      rintro e w2 ⟨rfl, hb⟩
      have B2 := Lib.hid (B1.out.trans (hb.mono B1.out.size))
      clear hb
      go_wp2_with (go_at_call 39; refine (CK.out _).mono ?_; rintro e w' ⟨rfl, rfl⟩)
      go_ret2
      rw [E.out]
      exact ⟨rfl, B2.out⟩
end Go.Proofs.YtbllnkhbahenkaaGreatDoor
