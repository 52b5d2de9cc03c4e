/- The contracts of Format, of the package and of the reference: no claim of its own. -/
import Derived.Test.YtbllnkhbahenkaaDoorATxt
import Derived.Test.YtbllnkhbahenkaaDoorItoaL
import Derived.Lib.AppendIntMem
namespace Go.Proofs.YtbllnkhbahenkaaDoor
open Go.RowKit Go.Shelf Go.Sort
/-- The table of powers of ten lies as the library's text lays it. -/
def Tab (w : World) : Prop := Lib.TabIs Tryd.prog w "internal/strconv.uint64pow10" .u64 Lib.pow10Tab
theorem Tab.keep {w w' : World} (h : Tab w) (hb : Below w.heap.size w w') : Tab w' := by
  unfold Tab Lib.TabIs World.var? at *
  cases e : Tryd.prog.globalNamed "internal/strconv.uint64pow10" with
  | none => rw [e] at h; exact h
  | some g =>
    rw [e] at h
    simp only [Option.bind_some] at h ⊢
    by_cases hg : g < w.heap.size
    · rw [hb.block g hg]; exact h
    · rw [Array.getElem?_eq_none (by omega)] at h; cases h
set_option maxRecDepth 100000 in
theorem format5_any (v : Int) (h0 : -9223372036854775808 ≤ v) (h1 : v ≤ 9223372036854775807) (w : World) (ht : Tab w) :
    Calls Tryd.prog 13 #[.int .i64 v] w (Gives (.string (str (Lib.itoa v))) w) := by
  have C := Lib.hid (Any.strconv_FormatInt_10 laysM173 v h0 h1 w ht)
  clear ht
  go_enter Tryd.func13, Tryd.ntmps13
  go_wp2_with fail
  refine Calls.mono C.out ?_
  rintro e w1 ⟨rfl, k, os, rfl⟩
  have B := Lib.hid (Lib.below_grow w.heap.size w (Nat.le_refl _) k os)
  go_wp2
  go_ret
  exact ⟨rfl, B.out⟩
theorem decDigits_big {y : Nat} (h : ¬ y < 10) : Lib.decDigits y = Lib.decDigits (y / 10) ++ [UInt8.ofNat (48 + y % 10)] := by rw [Lib.decDigits, dif_neg h]
/-- What holds in a round of digits. -/
structure DIn (w : World) (x y : Nat) (t : List UInt8) (wr : World) : Prop where
  eq : Lib.decDigits y ++ t = Lib.decDigits x
  bel : Below w.heap.size w wr
set_option maxRecDepth 100000 in
set_option maxHeartbeats 1000000 in
theorem rdigits_any (x : Nat) (hx : x < 18446744073709551616) (w : World) :
    Calls Tryd.prog 24 #[.int .u64 x] w (Gives (.string (str (Lib.decDigits x))) w) := by
  have LX : (Lib.decDigits x).length ≤ 21 := isText_len _ _ 20 (decDigits_text x) (by omega)
  have I0 : Hid (DIn w x x [] w) := Lib.hid ⟨by simp, Below.refl _ _⟩
  go_enter Tryd.func24, Tryd.ntmps24
  go_wp2
  go_loopw [0, 3] (fun a v wr => ∃ (y : Nat) (t : List UInt8), y ≤ x ∧ a = .int .u64 y ∧ v = .string (str t) ∧ Hid (DIn w x y t wr)) (fun a _ _ => (intOf a).toNat)
  case atStart => exact ⟨x, [], Nat.le_refl _, rfl, rfl, I0⟩
  case round =>
    obtain ⟨y, t, hy, rfl, rfl, hi⟩ := hrel
    have hl : (Lib.decDigits y).length + t.length = (Lib.decDigits x).length := by rw [← hi.out.eq, List.length_append]
    have hs := hi.out.bel.size
    have z2 : (str t).size ≤ 21 := by rw [str_size]; omega
    clear I0
    by_cases h1 : 9 < y
    · have e1 : Hid (Lib.decDigits (y / 10) ++ (UInt8.ofNat (48 + y % 10) :: t) = Lib.decDigits x) := Lib.hid (by
        have := hi.out.eq
        rw [decDigits_big (by omega), List.append_assoc] at this
        exact this)
      have BB := Lib.hid hi.out.bel
      have E : Hid (str [UInt8.ofNat (48 + y % 10)] ++ str t = str (UInt8.ofNat (48 + y % 10) :: t)) := Lib.hid (str_append _ _)
      have z1 : (str [UInt8.ofNat (48 + y % 10)]).size = 1 := by rw [str_size]; rfl
      have z3 : ¬ 9223372036854775807 < (str [UInt8.ofNat (48 + y % 10)]).size + (str t).size := by omega
      generalize hb1 : UInt8.ofNat (48 + y % 10) = b1 at *
      have e3 : ((48 + y % 10 : Nat) : Int) = (b1.toNat : Int) := by rw [← hb1]; simp; omega
      have f1 : (y : Int).tmod 10 = ((y % 10 : Nat) : Int) := by rw [Int.tmod_eq_emod_of_nonneg (by omega)]; omega
      have f2 : IntKind.u64.wrap (48 + ((y % 10 : Nat) : Int)) = ((48 + y % 10 : Nat) : Int) := by rw [IntWalk.u64_in] <;> omega
      have f3 : IntKind.u8.wrap ((48 + y % 10 : Nat) : Int) = (b1.toNat : Int) := by rw [← e3]; rw [IntWalk.u8_in] <;> omega
      have f4 : IntKind.u64.wrap ((y : Int) / 10) = ((y / 10 : Nat) : Int) := by rw [IntWalk.u64_in] <;> omega
      have T1 := byte_at (W := wr.alloc (.cells #[.int .u8 (b1.toNat : Int)] 5)) (g := wr.heap.size) (b := b1) (heap_new wr _) rfl
      have B1 := Lib.hid (BB.out.alloc hs (.cells #[.int .u8 (b1.toNat : Int)] 5))
      clear hb1 e3 hi hl
      have hy3 : y / 10 < y := by omega
      generalize y % 10 = y1 at *
      generalize 48 + y1 = y2 at *
      generalize y / 10 = y3 at *
      go_wp2
      go_roundw
      case rel => exact ⟨y3, b1 :: t, by omega, by go_num, by rw [E.out], Lib.hid ⟨e1.out, B1.out⟩⟩
      case measure => simp [intOf]; omega
    · have e1 : Hid (str [UInt8.ofNat (48 + y)] ++ str t = str (Lib.decDigits x)) := Lib.hid (by
        rw [str_append]
        have := hi.out.eq
        rw [Lib.decDigits_one (by omega)] at this
        rw [← this])
      have z1 : (str [UInt8.ofNat (48 + y)]).size = 1 := by rw [str_size]; rfl
      have z3 : ¬ 9223372036854775807 < (str [UInt8.ofNat (48 + y)]).size + (str t).size := by omega
      generalize hb1 : UInt8.ofNat (48 + y) = b1 at *
      have e3 : ((48 + y : Nat) : Int) = (b1.toNat : Int) := by rw [← hb1]; simp; omega
      have f2 : IntKind.u64.wrap (48 + (y : Int)) = ((48 + y : Nat) : Int) := by rw [IntWalk.u64_in] <;> omega
      have f3 : IntKind.u8.wrap ((48 + y : Nat) : Int) = (b1.toNat : Int) := by rw [← e3]; rw [IntWalk.u8_in] <;> omega
      have T1 := byte_at (W := wr.alloc (.cells #[.int .u8 (b1.toNat : Int)] 5)) (g := wr.heap.size) (b := b1) (heap_new wr _) rfl
      have F : Hid (Gives (.string (str (Lib.decDigits x))) w (.returned (.string (str [b1] ++ str t))) (wr.alloc (.cells #[.int .u8 (b1.toNat : Int)] 5))) := Lib.hid ⟨by rw [e1.out], hi.out.bel.alloc hs _⟩
      clear hb1 e3 hi hl e1
      have hy9 : ¬ (9 : Int) < (y : Int) := by omega
      generalize 48 + y = y2 at *
      go_wp2
      go_ret
      exact F.out
set_option maxRecDepth 100000 in
set_option maxHeartbeats 1000000 in
theorem rformat5_any (v : Int) (h0 : -9223372036854775808 ≤ v) (h1 : v ≤ 9223372036854775807) (w : World) :
    Calls Tryd.prog 14 #[.int .i64 v] w (Gives (.string (str (Lib.itoa v))) w) := by
  by_cases hn : v < 0
  · have e : (-(v + 1) + 1 : Int) = (v.natAbs : Int) := by omega
    have C : Hid (∀ W, Calls Tryd.prog 24 #[.int .u64 (v.natAbs : Nat)] W (Gives (.string (str (Lib.decDigits v.natAbs))) W)) := Lib.hid fun W => rdigits_any v.natAbs (by omega) W
    have E : Hid (str [45] ++ str (Lib.decDigits v.natAbs) = str (Lib.itoa v)) := Lib.hid (by
      rw [str_append]; unfold Lib.itoa; rw [if_pos hn]; rfl)
    have L1 : (Lib.decDigits v.natAbs).length ≤ 21 := isText_len _ _ 20 (decDigits_text _) (by omega)
    have z2 : (str (Lib.decDigits v.natAbs)).size ≤ 21 := by rw [str_size]; exact L1
    have f1 : IntKind.i64.wrap (v + 1) = v + 1 := IntWalk.i64_in _ (by omega)
    have f2 : IntKind.i64.wrap (-(v + 1)) = -(v + 1) := IntWalk.i64_in _ (by omega)
    have f3 : IntKind.u64.wrap (-(v + 1)) = -(v + 1) := by rw [IntWalk.u64_in] <;> omega
    have f4 : IntKind.u64.wrap (-(v + 1) + 1) = (v.natAbs : Int) := by rw [IntWalk.u64_in] <;> omega
    clear L1 e
    generalize str (Lib.decDigits v.natAbs) = t at *
    generalize v.natAbs = m at *
    have z1 : (str [45]).size = 1 := by rw [str_size]; rfl
    have z3 : ¬ 9223372036854775807 < (str [45]).size + t.size := by omega
    go_enter Tryd.func14, Tryd.ntmps14
    go_wp2_with fail
    refine (C.out _).mono ?_
    rintro e w1 ⟨rfl, hb⟩
    have B := Lib.hid hb
    clear hb
    go_wp2
    go_ret
    exact ⟨ret_s E.out, B.out⟩
  · have C : Hid (∀ W, Calls Tryd.prog 24 #[.int .u64 v] W (Gives (.string (str (Lib.itoa v))) W)) := Lib.hid fun W => by
      have := rdigits_any v.toNat (by omega) W
      rw [show ((v.toNat : Nat) : Int) = v by omega] at this
      unfold Lib.itoa; rw [if_neg hn]; exact this
    go_enter Tryd.func14, Tryd.ntmps14
    go_wp2_with fail
    refine (C.out _).mono ?_
    rintro e w1 ⟨rfl, hb⟩
    have B := Lib.hid hb
    clear hb
    go_wp2
    go_ret
    exact ⟨rfl, B.out⟩
end Go.Proofs.YtbllnkhbahenkaaDoor
