/- FValid, ShortF, joined: no claim of its own. -/
import Derived.Test.YtbllnkhbahenkaaGreatDoorFrac
import Derived.Test.YtbllnkhbahenkaaGreatDoorRGcd
import Derived.Test.YtbllnkhbahenkaaGreatDoorCmp
import Derived.Test.YtbllnkhbahenkaaGreatDoorIsRow
namespace Go.Proofs.YtbllnkhbahenkaaGreatDoor
open Go.RowKit
theorem rgcd_v {A B : Option Addr} {n c m d a b : Nat} {xs ys : List Nat} {w : World} (hx : Num w A n c xs a) (hy : Num w B m d ys b) (hn : n ≤ 20) (hm : m ≤ 20) {T : Nat} (hT : Nat.gcd a b = T) :
    Calls Tryz.prog 30 #[.slice A n c, .slice B m d] w (GivesNum T w) := hT ▸ rgcd_any A B n c m d a b xs ys w hx hy (by omega) (by omega)
theorem fgcd_v {A B : Option Addr} {n c m d a b : Nat} {xs ys : List Nat} {w : World} (hx : Num w A n c xs a) (hy : Num w B m d ys b) (hn : n ≤ 20) (hm : m ≤ 20) {T : Nat} (hT : Nat.gcd a b = T) :
    Calls Tryz.prog 49 #[.slice A n c, .slice B m d] w (GivesNum T w) := hT ▸ gcd_any A B n c m d a b xs ys w hx hy (by omega) (by omega)
theorem rvalid_l {A : Option Addr} {n c : Nat} {xs : List Nat} {w : World} (h : Lst w A n c xs) {b : Bool} (hb : tightB xs = b) :
    Calls Tryz.prog 29 #[.slice A n c] w fun e w' => e = .returned (.bool b) ∧ w = w' := hb ▸ rvalid_any A n c xs w h
theorem Num.tightB {w : World} {A : Option Addr} {n c a : Nat} {xs : List Nat} (h : Num w A n c xs a) : tightB xs = true := (tightB_iff xs).2 h.tight
set_option maxRecDepth 100000 in
set_option maxHeartbeats 1000000 in
theorem rv_badX (s : Bool) (A B : Option Addr) (n c m d : Nat) (xs ys : List Nat) (w : World) (hx : Lst w A n c xs) (hy : Lst w B m d ys) (hb : tightB xs = false) :
    Calls Tryz.prog 12 #[.agg #[.bool s, .slice A n c, .slice B m d]] w (Gives (.bool false) w) := by
  have b0 := Lib.hid ((Below.refl w.heap.size w).alloc (Nat.le_refl _) (.cells #[.bool s, .slice A n c, .slice B m d] 25))
  have V1 := Lib.hid (rvalid_l (hx.keep b0.out) hb)
  clear hx hy hb
  go_enter Tryz.func12, Tryz.ntmps12
  go_wp2_with fail
  refine V1.out.mono ?_
  rintro e w' ⟨rfl, rfl⟩
  go_wp2
  go_ret
  exact ⟨rfl, b0.out⟩
set_option maxRecDepth 100000 in
set_option maxHeartbeats 1000000 in
theorem rv_badY (s : Bool) (A B : Option Addr) (n c m d : Nat) (xs ys : List Nat) (w : World) (hx : Lst w A n c xs) (hy : Lst w B m d ys) (hb : tightB xs = true) (hb2 : tightB ys = false) :
    Calls Tryz.prog 12 #[.agg #[.bool s, .slice A n c, .slice B m d]] w (Gives (.bool false) w) := by
  have b0 := Lib.hid ((Below.refl w.heap.size w).alloc (Nat.le_refl _) (.cells #[.bool s, .slice A n c, .slice B m d] 25))
  have V1 := Lib.hid (rvalid_l (hx.keep b0.out) hb)
  have V2 := Lib.hid (rvalid_l (hy.keep b0.out) hb2)
  clear hx hy hb hb2
  go_enter Tryz.func12, Tryz.ntmps12
  go_wp2_with fail
  refine V1.out.mono ?_
  rintro e w' ⟨rfl, rfl⟩
  go_wp2_with fail
  refine V2.out.mono ?_
  rintro e w' ⟨rfl, rfl⟩
  go_wp2
  go_ret
  exact ⟨rfl, b0.out⟩
set_option maxRecDepth 100000 in
set_option maxHeartbeats 1000000 in
theorem rv_den0 (s : Bool) (A B : Option Addr) (n c m d : Nat) (xs ys : List Nat) (w : World) (p q : Nat) (hx : Num w A n c xs p) (hy : Num w B m d ys q) (hn : n ≤ 20) (hm : m ≤ 20) (hq : m = 0) :
    Calls Tryz.prog 12 #[.agg #[.bool s, .slice A n c, .slice B m d]] w (Gives (.bool false) w) := by
  have b0 := Lib.hid ((Below.refl w.heap.size w).alloc (Nat.le_refl _) (.cells #[.bool s, .slice A n c, .slice B m d] 25))
  subst hq
  have V1 := Lib.hid (rvalid_l (hx.keep b0.out).toLst hx.tightB)
  have V2 := Lib.hid (rvalid_l (hy.keep b0.out).toLst hy.tightB)
  clear hx hy
  go_enter Tryz.func12, Tryz.ntmps12
  go_wp2_with fail
  refine V1.out.mono ?_
  rintro e w' ⟨rfl, rfl⟩
  go_wp2_with fail
  refine V2.out.mono ?_
  rintro e w' ⟨rfl, rfl⟩
  go_wp2
  go_ret
  exact ⟨rfl, b0.out⟩
set_option maxRecDepth 100000 in
set_option maxHeartbeats 1000000 in
theorem rv_neg0 (A B : Option Addr) (n c m d : Nat) (xs ys : List Nat) (w : World) (p q : Nat) (hx : Num w A n c xs p) (hy : Num w B m d ys q) (hn : n ≤ 20) (hm : m ≤ 20) (hq : 0 < m) (hp : n = 0) :
    Calls Tryz.prog 12 #[.agg #[.bool true, .slice A n c, .slice B m d]] w (Gives (.bool false) w) := by
  have b0 := Lib.hid ((Below.refl w.heap.size w).alloc (Nat.le_refl _) (.cells #[.bool true, .slice A n c, .slice B m d] 25))
  subst hp
  have V1 := Lib.hid (rvalid_l (hx.keep b0.out).toLst hx.tightB)
  have V2 := Lib.hid (rvalid_l (hy.keep b0.out).toLst hy.tightB)
  have mz : ((m : Int) == 0) = false := beq_eq_false_iff_ne.2 (by omega)
  clear hx hy hq
  go_enter Tryz.func12, Tryz.ntmps12
  go_wp2_with fail
  refine V1.out.mono ?_
  rintro e w' ⟨rfl, rfl⟩
  go_wp2_with fail
  refine V2.out.mono ?_
  rintro e w' ⟨rfl, rfl⟩
  go_wp2
  go_ret
  exact ⟨rfl, b0.out⟩
set_option maxRecDepth 100000 in
set_option maxHeartbeats 1000000 in
theorem rv_zero1 (A B : Option Addr) (n c m d : Nat) (xs ys : List Nat) (w : World) (p q : Nat) (hx : Num w A n c xs p) (hy : Num w B m d ys q) (hn : n ≤ 20) (hm : m ≤ 20) (hq : m = 1) (hp : n = 0) (b : Bool) (hb : decide (q = 1) = b) :
    Calls Tryz.prog 12 #[.agg #[.bool false, .slice A n c, .slice B m d]] w (Gives (.bool b) w) := by
  have b0 := Lib.hid ((Below.refl w.heap.size w).alloc (Nat.le_refl _) (.cells #[.bool false, .slice A n c, .slice B m d] 25))
  subst hp
  subst hq
  have V1 := Lib.hid (rvalid_l (hx.keep b0.out).toLst hx.tightB)
  have V2 := Lib.hid (rvalid_l (hy.keep b0.out).toLst hy.tightB)
  have ex := hy.one
  obtain ⟨ad, rfl, _, hc⟩ := (hy.keep b0.out).toLst.at_ (k := 0) (by omega)
  rw [ex, add_zero_] at hc
  simp only [List.getD_cons_zero] at hc
  have hc1 := hy.cap
  have e : ((q : Int) == 1) = b := by
    rw [← hb]
    by_cases h : q = 1
    · subst h; rfl
    · rw [decide_eq_false h]; exact beq_eq_false_iff_ne.2 (by omega)
  clear hx hy hb ex
  go_enter Tryz.func12, Tryz.ntmps12
  go_wp2_with fail
  refine V1.out.mono ?_
  rintro e w' ⟨rfl, rfl⟩
  go_wp2_with fail
  refine V2.out.mono ?_
  rintro e w' ⟨rfl, rfl⟩
  go_wp2
  go_ret
  exact ⟨rfl, b0.out⟩
set_option maxRecDepth 100000 in
set_option maxHeartbeats 1000000 in
theorem rv_zero2 (A B : Option Addr) (n c m d : Nat) (xs ys : List Nat) (w : World) (p q : Nat) (hx : Num w A n c xs p) (hy : Num w B m d ys q) (hn : n ≤ 20) (hm : m ≤ 20) (hq : 0 < m) (hq1 : m ≠ 1) (hp : n = 0) :
    Calls Tryz.prog 12 #[.agg #[.bool false, .slice A n c, .slice B m d]] w (Gives (.bool false) w) := by
  have b0 := Lib.hid ((Below.refl w.heap.size w).alloc (Nat.le_refl _) (.cells #[.bool false, .slice A n c, .slice B m d] 25))
  subst hp
  have V1 := Lib.hid (rvalid_l (hx.keep b0.out).toLst hx.tightB)
  have V2 := Lib.hid (rvalid_l (hy.keep b0.out).toLst hy.tightB)
  have mz : ((m : Int) == 0) = false := beq_eq_false_iff_ne.2 (by omega)
  have m1 : ((m : Int) == 1) = false := beq_eq_false_iff_ne.2 (by omega)
  clear hx hy hq hq1
  go_enter Tryz.func12, Tryz.ntmps12
  go_wp2_with fail
  refine V1.out.mono ?_
  rintro e w' ⟨rfl, rfl⟩
  go_wp2_with fail
  refine V2.out.mono ?_
  rintro e w' ⟨rfl, rfl⟩
  go_wp2
  go_ret
  exact ⟨rfl, b0.out⟩
set_option maxRecDepth 100000 in
set_option maxHeartbeats 1000000 in
theorem rv_gcd (s : Bool) (A B : Option Addr) (n c m d : Nat) (xs ys : List Nat) (w : World) (p q : Nat) (hx : Num w A n c xs p) (hy : Num w B m d ys q) (hn : n ≤ 20) (hm : m ≤ 20) (hq : 0 < m) (hp : 0 < n) (b : Bool) (T : Nat) (hT : Nat.gcd p q = T) (hb : decide (T = 1) = b) :
    Calls Tryz.prog 12 #[.agg #[.bool s, .slice A n c, .slice B m d]] w (Gives (.bool b) w) := by
  have b0 := Lib.hid ((Below.refl w.heap.size w).alloc (Nat.le_refl _) (.cells #[.bool s, .slice A n c, .slice B m d] 25))
  have V1 := Lib.hid (rvalid_l (hx.keep b0.out).toLst hx.tightB)
  have V2 := Lib.hid (rvalid_l (hy.keep b0.out).toLst hy.tightB)
  have mz : ((m : Int) == 0) = false := beq_eq_false_iff_ne.2 (by omega)
  have nz : ((n : Int) == 0) = false := beq_eq_false_iff_ne.2 (by omega)
  have G1 := Lib.hid (rgcd_v (hx.keep b0.out) (hy.keep b0.out) hn hm hT)
  have HB := Lib.hid hb
  clear hx hy hq hp hb hT
  go_enter Tryz.func12, Tryz.ntmps12
  go_wp2_with fail
  refine V1.out.mono ?_
  rintro e w' ⟨rfl, rfl⟩
  go_wp2_with fail
  refine V2.out.mono ?_
  rintro e w' ⟨rfl, rfl⟩
  go_wp2_with fail
  refine G1.out.mono ?_
  rintro e w1 ⟨Ag, ng, cg, xg, rfl, hN, hb⟩
  have B1 := Lib.hid (b0.out.trans (hb.mono b0.out.size))
  clear hb b0
  by_cases h1 : ng = 1
  · subst h1
    have ex := hN.one
    obtain ⟨ad, rfl, _, hc⟩ := hN.toLst.at_ (k := 0) (by omega)
    rw [ex, add_zero_] at hc
    simp only [List.getD_cons_zero] at hc
    have hc1 := hN.cap
    have e : ((T : Int) == 1) = b := by
      rw [← HB.out]
      by_cases h : T = 1
      · subst h; rfl
      · rw [decide_eq_false h]; exact beq_eq_false_iff_ne.2 (by omega)
    clear hN ex HB
    go_wp2
    go_ret
    exact ⟨rfl, B1.out⟩
  · have e : b = false := by
      rw [← HB.out]
      refine decide_eq_false fun ha => h1 ?_
      have h2 := hN.len_le (k := 1) (by rw [ha]; decide)
      have h3 := hN.npos (by omega)
      omega
    subst e
    have hz : ((ng : Int) == 1) = false := beq_eq_false_iff_ne.2 (by omega)
    clear hN HB h1
    go_wp2
    go_ret
    exact ⟨rfl, B1.out⟩
end Go.Proofs.YtbllnkhbahenkaaGreatDoor
namespace Go.Proofs.YtbllnkhbahenkaaGreatDoor
open Go.RowKit
/-- The reference's Valid of a fraction that is not long: if it says yes, it is a fraction in lowest terms. -/
theorem rvalid_ok (s : Bool) (A B : Option Addr) (n c m d : Nat) (xs ys : List Nat) (w : World) (hx : Lst w A n c xs) (hy : Lst w B m d ys) (hn : n ≤ 20) (hm : m ≤ 20) :
    ∃ b, (b = true → ∃ p q, Num w A n c xs p ∧ Num w B m d ys q ∧ Fr.Ok ⟨s, p, q⟩) ∧ ∀ w', Below w.heap.size w w' → Calls Tryz.prog 12 #[.agg #[.bool s, .slice A n c, .slice B m d]] w' (Gives (.bool b) w') := by
  cases t1 : tightB xs
  · exact ⟨false, fun h => (by cases h), fun w' hb => rv_badX s A B n c m d xs ys w' (hx.keep hb) (hy.keep hb) t1⟩
  cases t2 : tightB ys
  · exact ⟨false, fun h => (by cases h), fun w' hb => rv_badY s A B n c m d xs ys w' (hx.keep hb) (hy.keep hb) t1 t2⟩
  have X : Num w A n c xs (dval xs) := ⟨hx, (tightB_iff xs).1 t1, rfl⟩
  have Y : Num w B m d ys (dval ys) := ⟨hy, (tightB_iff ys).1 t2, rfl⟩
  clear hx hy t1 t2
  generalize dval xs = p at *
  generalize dval ys = q at *
  rcases Nat.eq_zero_or_pos q with hq | hq
  · have hm0 : m = 0 := by subst hq; exact Y.nzero
    exact ⟨false, fun h => (by cases h), fun w' hb => rv_den0 s A B n c m d xs ys w' p q (X.keep hb) (Y.keep hb) hn hm hm0⟩
  have hm0 := Y.npos hq
  obtain ⟨T, hT⟩ : ∃ T, Nat.gcd p q = T := ⟨_, rfl⟩
  rcases Nat.eq_zero_or_pos p with hp | hp
  · have hn0 : n = 0 := by subst hp; exact X.nzero
    cases s
    · by_cases h1 : m = 1
      · refine ⟨decide (q = 1), fun h => ⟨p, q, X, Y, hq, ?_, fun h => (by cases h)⟩, fun w' hb => rv_zero1 A B n c m d xs ys w' p q (X.keep hb) (Y.keep hb) hn hm h1 hn0 _ rfl⟩
        show Nat.gcd p q = 1
        rw [hp, of_decide_eq_true h, Nat.gcd_one_right]
      · exact ⟨false, fun h => (by cases h), fun w' hb => rv_zero2 A B n c m d xs ys w' p q (X.keep hb) (Y.keep hb) hn hm hm0 h1 hn0⟩
    · exact ⟨false, fun h => (by cases h), fun w' hb => rv_neg0 A B n c m d xs ys w' p q (X.keep hb) (Y.keep hb) hn hm hm0 hn0⟩
  · have hn0 := X.npos hp
    exact ⟨decide (T = 1), fun h => ⟨p, q, X, Y, hq, hT.trans (of_decide_eq_true h), fun _ => hp⟩, fun w' hb => rv_gcd s A B n c m d xs ys w' p q (X.keep hb) (Y.keep hb) hn hm hm0 hn0 _ T hT rfl⟩
set_option maxRecDepth 100000 in
set_option maxHeartbeats 1000000 in
theorem short_long1 (s : Bool) (A B : Option Addr) (n c m d : Nat) (w : World) (h : 20 < n) (hn : n ≤ 9223372036854775807) :
    Calls Tryz.prog 5 #[.agg #[.bool s, .slice A n c, .slice B m d]] w (Gives (.bool false) w) := by
  have b0 := Lib.hid ((Below.refl w.heap.size w).alloc (Nat.le_refl _) (.cells #[.bool s, .slice A n c, .slice B m d] 25))
  go_enter Tryz.func5, Tryz.ntmps5
  go_wp2
  go_ret
  exact ⟨rfl, b0.out⟩
set_option maxRecDepth 100000 in
set_option maxHeartbeats 1000000 in
theorem short_long2 (s : Bool) (A B : Option Addr) (n c m d : Nat) (w : World) (h1 : n ≤ 20) (h : 20 < m) (hn : m ≤ 9223372036854775807) :
    Calls Tryz.prog 5 #[.agg #[.bool s, .slice A n c, .slice B m d]] w (Gives (.bool false) w) := by
  have b0 := Lib.hid ((Below.refl w.heap.size w).alloc (Nat.le_refl _) (.cells #[.bool s, .slice A n c, .slice B m d] 25))
  go_enter Tryz.func5, Tryz.ntmps5
  go_wp2
  go_ret
  exact ⟨rfl, b0.out⟩
set_option maxRecDepth 100000 in
set_option maxHeartbeats 1000000 in
theorem short_main (s : Bool) (A B : Option Addr) (n c m d : Nat) (w : World) (h1 : n ≤ 20) (h2 : m ≤ 20) (b : Bool)
    (v : ∀ w', Below w.heap.size w w' → Calls Tryz.prog 12 #[.agg #[.bool s, .slice A n c, .slice B m d]] w' (Gives (.bool b) w')) :
    Calls Tryz.prog 5 #[.agg #[.bool s, .slice A n c, .slice B m d]] w (Gives (.bool b) w) := by
  have b0 := Lib.hid ((Below.refl w.heap.size w).alloc (Nat.le_refl _) (.cells #[.bool s, .slice A n c, .slice B m d] 25))
  have V := Lib.hid (v _ b0.out)
  clear v
  go_enter Tryz.func5, Tryz.ntmps5
  go_wp2_with fail
  refine V.out.mono ?_
  rintro e w1 ⟨rfl, hb⟩
  have B1 := Lib.hid (b0.out.trans (hb.mono b0.out.size))
  clear hb V b0
  go_wp2
  go_ret
  exact ⟨rfl, B1.out⟩
/-- What short says of a fraction that came in: no; or yes, and it is a fraction of at most 20 digits in lowest terms. -/
theorem IsRow.short {w : World} {s : Bool} {A B : Option Addr} {n c m d : Nat} {z0 z1 : List Int} (w0 : IsRow .u32 w A n c z0) (w1 : IsRow .u32 w B m d z1) :
    ∃ b, (b = true → n ≤ 20 ∧ m ≤ 20 ∧ ∃ xs ys p q, Num w A n c xs p ∧ Num w B m d ys q ∧ Fr.Ok ⟨s, p, q⟩) ∧ ∀ w', Below w.heap.size w w' → Calls Tryz.prog 5 #[.agg #[.bool s, .slice A n c, .slice B m d]] w' (Gives (.bool b) w') := by
  rcases Nat.lt_or_ge 20 n with h1 | h1
  · exact ⟨false, fun h => (by cases h), fun w' _ => short_long1 s A B n c m d w' h1 w0.len_le⟩
  rcases Nat.lt_or_ge 20 m with h2 | h2
  · exact ⟨false, fun h => (by cases h), fun w' _ => short_long2 s A B n c m d w' h1 h2 w1.len_le⟩
  obtain ⟨xs, hx⟩ := w0.lst (by omega)
  obtain ⟨ys, hy⟩ := w1.lst (by omega)
  obtain ⟨b, hb, hv⟩ := rvalid_ok s A B n c m d xs ys w hx hy h1 h2
  refine ⟨b, fun h => ?_, fun w' k => short_main s A B n c m d w' h1 h2 b fun w2 k2 => hv w2 (k.trans (k2.mono k.size))⟩
  obtain ⟨p, q, h3⟩ := hb h
  exact ⟨h1, h2, xs, ys, p, q, h3⟩
end Go.Proofs.YtbllnkhbahenkaaGreatDoor
