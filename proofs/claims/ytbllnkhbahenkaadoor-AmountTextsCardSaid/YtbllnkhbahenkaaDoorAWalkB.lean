/- The walks of AmountChecks, AmountDivides, AmountTexts, given what awake and Share answer: no claim of its own. -/
import Derived.Test.YtbllnkhbahenkaaDoorAwakeA
import Derived.Test.YtbllnkhbahenkaaDoorARParse
namespace Go.Proofs.YtbllnkhbahenkaaDoor
open Go.RowKit MA
/-- What awake answers. -/
def Awk : Prop := ∀ w, Tab w → Calls Tryd.prog 7 #[] w (Gives (.bool true) w)
/-- What Share answers. -/
def Shr : Prop := ∀ (t : Int) (A : Option Addr) (n c : Nat) (ws : List Int) (w : World), Wts w A n c ws → Calls Tryd.prog 8 #[.int .i64 t, .slice A n c] w (GivesL (shareR t ws).1 (shareR t ws).2 w)
set_option maxRecDepth 100000 in
set_option maxHeartbeats 1000000 in
theorem checks_of (AW : Awk) (v : Int) (w : World) (ht : Tab w) : Calls Tryd.prog 6 #[.int .i64 v] w (Gives (.bool true) w) := by
  have C1 := Lib.hid (fun W => check_any v W)
  have C2 := Lib.hid (fun W => rcheck_any v W)
  have AH := Lib.hid (AW w ht)
  have zz : (chk v == chk v) = true := by simp
  generalize chk v = q at *
  clear ht AW
  go_enter Tryd.func6, Tryd.ntmps6
  go_wp2_with (first | (go_at_call 15; refine (C1.out _).mono ?_; rintro e w' ⟨rfl, rfl⟩) | (go_at_call 16; refine (C2.out _).mono ?_; rintro e w' ⟨rfl, rfl⟩))
  refine AH.out.mono ?_
  rintro e w' ⟨rfl, hb⟩
  have B := Lib.hid hb
  clear hb
  go_wp2
  go_ret
  exact ⟨rfl, B.out⟩
set_option maxRecDepth 100000 in
set_option maxHeartbeats 2000000 in
theorem divides_of (AW : Awk) (SH : Shr) (t : Int) (A : Option Addr) (n c : Nat) (ws : List Int) (w : World) (h : Wts w A n c ws) (ht : Tab w) :
    Calls Tryd.prog 4 #[.int .i64 t, .slice A n c] w (Gives (.bool true) w) := by
  have hn := h.fewW
  have S1 := Lib.hid (SH t A n c ws w h)
  have S2 := Lib.hid (fun W (hb : Below w.heap.size w W) => rshare_any t A n c ws W (h.keep hb))
  have AH := Lib.hid AW
  have T0 := Lib.hid ht
  have zz : ((shareR t ws).2 == (shareR t ws).2) = true := by simp
  clear h ht AW SH
  generalize shareR t ws = R at *
  obtain ⟨l, q⟩ := R
  go_enter Tryd.func4, Tryd.ntmps4
  go_wp2_with fail
  refine S1.out.mono ?_
  rintro e w1 ⟨A1, n1, c1, rfl, hw, hb⟩
  have S3 := Lib.hid (S2.out w1 hb)
  have P1 := Lib.hid hw
  have B1 := Lib.hid hb
  clear hw hb S1 S2
  go_wp2_with fail
  refine S3.out.mono ?_
  rintro e w2 ⟨A2, n2, c2, rfl, hw, hb⟩
  have P2 := Lib.hid (P1.out.keep hb)
  have Q2 := Lib.hid hw
  have B2 := Lib.hid (B1.out.trans (hb.mono B1.out.size))
  clear hw hb P1 B1 S3
  go_wp2_with fail
  refine (same5_yes _ _ _ _ _ _ l _ P2.out Q2.out).mono ?_
  rintro e w3 ⟨rfl, hb⟩
  have B3 := Lib.hid (B2.out.trans (hb.mono B2.out.size))
  clear hb P2 Q2 B2
  go_wp2_with fail
  refine (AH.out _ (T0.out.keep B3.out)).mono ?_
  rintro e w4 ⟨rfl, hb⟩
  have B4 := Lib.hid (B3.out.trans (hb.mono B3.out.size))
  clear hb B3
  go_wp2
  go_ret
  exact ⟨rfl, B4.out⟩
set_option maxRecDepth 100000 in
set_option maxHeartbeats 1000000 in
theorem divides_long (AW : Awk) (t : Int) (A : Option Addr) (n c : Nat) (w : World) (hn : 40 < n) (hm : n ≤ 9223372036854775807) (ht : Tab w) :
    Calls Tryd.prog 4 #[.int .i64 t, .slice A n c] w (Gives (.bool true) w) := by
  have AH := Lib.hid (AW w ht)
  clear ht AW
  go_enter Tryd.func4, Tryd.ntmps4
  go_wp2_with fail
  refine AH.out.mono ?_
  rintro e w4 ⟨rfl, hb⟩
  have B4 := Lib.hid hb
  clear hb
  go_wp2
  go_ret
  exact ⟨rfl, B4.out⟩
theorem divides_walk_of (AW : Awk) (SH : Shr) (t : Int) (A : Option Addr) (n c : Nat) (zs : List Int) (w : World) (h : IsRow .i64 w A n c zs) (ht : Tab w) :
    Calls Tryd.prog 4 #[.int .i64 t, .slice A n c] w (Gives (.bool true) w) := by
  rcases Nat.lt_or_ge 40 n with h1 | h1
  · exact divides_long AW t A n c w h1 h.le.2 ht
  · exact divides_of AW SH t A n c _ w (h.wts h1) ht
end Go.Proofs.YtbllnkhbahenkaaDoor
