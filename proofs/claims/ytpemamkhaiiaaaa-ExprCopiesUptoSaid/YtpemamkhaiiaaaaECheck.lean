/- A node's errors: no claim of its own. -/
import Derived.Test.YtpemamkhaiiaaaaECount
import Derived.Test.YtpemamkhaiiaaaaBArith
import Derived.Test.YtpemamkhaiiaaaaBSum
import Derived.Test.YtpemamkhaiiaaaaBEq
import Derived.Deep.DeepCutAuto
namespace Go.Proofs.Ytpemamkhaiiaaaa
open Go.RowKit
open ME (F Nd)
def someE (b : List Int) : Int := if chk b ≠ 0 ∨ totB b 6 = 0 then 4 else 0
def noneE (b : List Int) : Int := if b = ME.zero6 then 0 else 2
def amtE (v : Int) : Int := if v < 1 ∨ 1000000 < v then 4 else 0
def zeroE (v : Int) : Int := if v = 0 then 0 else 2
set_option maxRecDepth 100000 in
set_option maxHeartbeats 2000000 in
theorem someUnits_any (x0 x1 x2 x3 x4 x5 : Int) (w : World) : Calls Try.prog 33 #[.agg #[.int .i64 x0, .int .i64 x1, .int .i64 x2, .int .i64 x3, .int .i64 x4, .int .i64 x5]] w (Gives (.int .i64 (someE [x0, x1, x2, x3, x4, x5])) w) := by
  have HB := Lib.hid (below_new w (.cells #[.int .i64 x0, .int .i64 x1, .int .i64 x2, .int .i64 x3, .int .i64 x4, .int .i64 x5] 23))
  have BX := Lib.hid (BB.new w 23 x0 x1 x2 x3 x4 x5)
  have CC := Lib.hid (bcheck_any x0 x1 x2 x3 x4 x5)
  have CT := Lib.hid (total_any x0 x1 x2 x3 x4 x5)
  have E : Hid (someE [x0, x1, x2, x3, x4, x5] = if chk [x0, x1, x2, x3, x4, x5] ≠ 0 ∨ totB [x0, x1, x2, x3, x4, x5] 6 = 0 then 4 else 0) := Lib.hid rfl
  generalize someE [x0, x1, x2, x3, x4, x5] = R at *
  generalize chk [x0, x1, x2, x3, x4, x5] = ce at *
  generalize totB [x0, x1, x2, x3, x4, x5] 6 = tt at *
  obtain ⟨c0, c1, c2, c3, c4, c5⟩ := cells6 BX.out
  go_enter Try.func33, Try.ntmps33
  go_wp2_with fail
  refine (CC.out _).mono ?_
  rintro ev w3 ⟨rfl, hb3⟩
  have BX3 := Lib.hid (BX.out.keep hb3 BX.out.lt)
  have HB3 := Lib.hid (HB.out.trans (hb3.mono HB.out.size))
  clear hb3 HB BX c0 c1 c2 c3 c4 c5
  by_cases h1 : ce = 0
  · subst h1
    obtain ⟨c0, c1, c2, c3, c4, c5⟩ := cells6 BX3.out
    go_wp2_with fail
    refine (CT.out _).mono ?_
    rintro ev w4 ⟨rfl, hb4⟩
    have HB4 := Lib.hid (HB3.out.trans (hb4.mono HB3.out.size))
    clear hb4 HB3 c0 c1 c2 c3 c4 c5
    by_cases h2 : tt = 0
    · subst h2
      have ER : Hid (R = 4) := Lib.hid (by rw [E.out, if_pos (Or.inr rfl)])
      go_wp2
      go_ret
      exact ⟨by rw [ER.out]; rfl, HB4.out⟩
    · have e2 : (tt == 0) = false := beq_eq_false_iff_ne.2 h2
      have ER : Hid (R = 0) := Lib.hid (by rw [E.out, if_neg (by rintro (g | g); exact g rfl; exact h2 g)])
      go_wp2
      go_ret
      exact ⟨by rw [ER.out]; rfl, HB4.out⟩
  · have e1 : (ce != 0) = true := bne_iff_ne.2 h1
    have ER : Hid (R = 4) := Lib.hid (by rw [E.out, if_pos (Or.inl h1)])
    go_wp2
    go_ret
    exact ⟨by rw [ER.out]; rfl, HB3.out⟩
set_option maxRecDepth 100000 in
set_option maxHeartbeats 2000000 in
theorem noUnits_any (x0 x1 x2 x3 x4 x5 : Int) (w : World) : Calls Try.prog 35 #[.agg #[.int .i64 x0, .int .i64 x1, .int .i64 x2, .int .i64 x3, .int .i64 x4, .int .i64 x5]] w (Gives (.int .i64 (noneE [x0, x1, x2, x3, x4, x5])) w) := by
  have HB := Lib.hid (below_new w (.cells #[.int .i64 x0, .int .i64 x1, .int .i64 x2, .int .i64 x3, .int .i64 x4, .int .i64 x5] 23))
  have BX := Lib.hid (BB.new w 23 x0 x1 x2 x3 x4 x5)
  have SM := run_same [x0, x1, x2, x3, x4, x5] ME.zero6 rfl rfl
  rw [cellsB_lit, show cellsB ME.zero6 = #[.int .i64 0, .int .i64 0, .int .i64 0, .int .i64 0, .int .i64 0, .int .i64 0] from rfl] at SM
  have E : Hid (noneE [x0, x1, x2, x3, x4, x5] = if [x0, x1, x2, x3, x4, x5] = ME.zero6 then 0 else 2) := Lib.hid rfl
  generalize noneE [x0, x1, x2, x3, x4, x5] = R at *
  obtain ⟨c0, c1, c2, c3, c4, c5⟩ := cells6 BX.out
  by_cases h : [x0, x1, x2, x3, x4, x5] = ME.zero6
  · rw [decide_eq_true h] at SM
    have ER : Hid (R = 0) := Lib.hid (by rw [E.out, if_pos h])
    clear h E
    go_enter Try.func35, Try.ntmps35
    go_wp2
    go_ret
    exact ⟨by rw [ER.out]; rfl, HB.out⟩
  · rw [decide_eq_false h] at SM
    have ER : Hid (R = 2) := Lib.hid (by rw [E.out, if_neg h])
    clear h E
    go_enter Try.func35, Try.ntmps35
    go_wp2
    go_ret
    exact ⟨by rw [ER.out]; rfl, HB.out⟩
set_option maxRecDepth 100000 in
theorem noAmount_any (v : Int) (w : World) : Calls Try.prog 36 #[.int .i64 v] w (Gives (.int .i64 (zeroE v)) w) := by
  by_cases h : v = 0
  · have ER : Hid (zeroE v = 0) := Lib.hid (if_pos h)
    subst h
    go_enter Try.func36, Try.ntmps36
    go_wp2
    go_ret
    exact ⟨by rw [ER.out]; rfl, Below.refl _ _⟩
  · have e : (v != 0) = true := bne_iff_ne.2 h
    have ER : Hid (zeroE v = 2) := Lib.hid (if_neg h)
    go_enter Try.func36, Try.ntmps36
    go_wp2
    go_ret
    exact ⟨by rw [ER.out]; rfl, Below.refl _ _⟩
set_option maxRecDepth 100000 in
theorem anAmount_any (v : Int) (w : World) : Calls Try.prog 34 #[.int .i64 v] w (Gives (.int .i64 (amtE v)) w) := by
  by_cases h1 : v < 1
  · have ER : Hid (amtE v = 4) := Lib.hid (if_pos (.inl h1))
    go_enter Try.func34, Try.ntmps34
    go_wp2
    go_ret
    exact ⟨by rw [ER.out]; rfl, Below.refl _ _⟩
  · by_cases h2 : 1000000 < v
    · have ER : Hid (amtE v = 4) := Lib.hid (if_pos (.inr h2))
      go_enter Try.func34, Try.ntmps34
      go_wp2
      go_ret
      exact ⟨by rw [ER.out]; rfl, Below.refl _ _⟩
    · have ER : Hid (amtE v = 0) := Lib.hid (if_neg (by rintro (g | g) <;> contradiction))
      go_enter Try.func34, Try.ntmps34
      go_wp2
      go_ret
      exact ⟨by rw [ER.out]; rfl, Below.refl _ _⟩
end Go.Proofs.Ytpemamkhaiiaaaa
