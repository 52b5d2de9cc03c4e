/- Valid fractions: the package's Valid and the reference's Lowest say the same. No claim of its own. -/
import Derived.Test.YtebfnbnaheolgaaFrac
import Derived.Test.YtebfnbnaheolgaaRGcd
import Derived.Test.YtebfnbnaheolgaaWLives
namespace Go.Proofs.Ytebfnbnaheolgaa
open Go.RowKit
theorem rgcd_v {A B : Option Addr} {n c m d a b : Nat} {xs ys : List Nat} {w : World} (hx : Num w A n c xs a) (hy : Num w B m d ys b) (hn : n ≤ 2000) (hm : m ≤ 2000) {T : Nat} (hT : Nat.gcd a b = T) :
    Calls Try.prog 38 #[.slice A n c, .slice B m d] w (GivesNum T w) := hT ▸ rgcd_any A B n c m d a b xs ys w hx hy (by omega) (by omega)
theorem fgcd_v {A B : Option Addr} {n c m d a b : Nat} {xs ys : List Nat} {w : World} (hx : Num w A n c xs a) (hy : Num w B m d ys b) (hn : n ≤ 2000) (hm : m ≤ 2000) {T : Nat} (hT : Nat.gcd a b = T) :
    Calls Try.prog 58 #[.slice A n c, .slice B m d] w (GivesNum T w) := hT ▸ gcd_any A B n c m d a b xs ys w hx hy (by omega) (by omega)
theorem valid_l {A : Option Addr} {n c : Nat} {xs : List Nat} {w : World} (h : Lst w A n c xs) {b : Bool} (hb : tightB xs = b) :
    Calls Try.prog 55 #[.slice A n c] w fun e w' => e = .returned (.bool b) ∧ w = w' := hb ▸ valid_any A n c xs w h
theorem rvalid_l {A : Option Addr} {n c : Nat} {xs : List Nat} {w : World} (h : Lst w A n c xs) {b : Bool} (hb : tightB xs = b) :
    Calls Try.prog 36 #[.slice A n c] w fun e w' => e = .returned (.bool b) ∧ w = w' := hb ▸ rvalid_any A n c xs w h
theorem Num.tightB {w : World} {A : Option Addr} {n c a : Nat} {xs : List Nat} (h : Num w A n c xs a) : tightB xs = true := (tightB_iff xs).2 h.tight
set_option maxRecDepth 100000 in
set_option maxHeartbeats 1000000 in
theorem fv_badX (s : Bool) (A B : Option Addr) (n c m d : Nat) (xs ys : List Nat) (w : World) (hx : Lst w A n c xs) (hy : Lst w B m d ys) (hb : tightB xs = false) :
    Calls Try.prog 45 #[.agg #[.bool s, .slice A n c, .slice B m d]] w (Gives (.bool false) w) := by
  have b0 := Lib.hid ((Below.refl w.heap.size w).alloc (Nat.le_refl _) (.cells #[.bool s, .slice A n c, .slice B m d] 40))
  have V1 := Lib.hid (valid_l (hx.keep b0.out) hb)
  clear hx hy hb
  go_enter Try.func45, Try.ntmps45
  go_wp2_with fail
  refine V1.out.mono ?_
  rintro e w' ⟨rfl, rfl⟩
  go_wp2
  go_ret
  exact ⟨rfl, b0.out⟩
set_option maxRecDepth 100000 in
set_option maxHeartbeats 1000000 in
theorem fv_badY (s : Bool) (A B : Option Addr) (n c m d : Nat) (xs ys : List Nat) (w : World) (hx : Lst w A n c xs) (hy : Lst w B m d ys) (hb : tightB xs = true) (hb2 : tightB ys = false) :
    Calls Try.prog 45 #[.agg #[.bool s, .slice A n c, .slice B m d]] w (Gives (.bool false) w) := by
  have b0 := Lib.hid ((Below.refl w.heap.size w).alloc (Nat.le_refl _) (.cells #[.bool s, .slice A n c, .slice B m d] 40))
  have V1 := Lib.hid (valid_l (hx.keep b0.out) hb)
  have V2 := Lib.hid (valid_l (hy.keep b0.out) hb2)
  clear hx hy hb hb2
  go_enter Try.func45, Try.ntmps45
  go_wp2_with fail
  refine V1.out.mono ?_
  rintro e w' ⟨rfl, rfl⟩
  go_wp2_with fail
  refine V2.out.mono ?_
  rintro e w' ⟨rfl, rfl⟩
  go_wp2
  go_ret
  exact ⟨rfl, b0.out⟩
set_option maxRecDepth 100000 in
set_option maxHeartbeats 1000000 in
theorem fv_den0 (s : Bool) (A B : Option Addr) (n c m d : Nat) (xs ys : List Nat) (w : World) (p q : Nat) (hx : Num w A n c xs p) (hy : Num w B m d ys q) (hn : n ≤ 2000) (hm : m ≤ 2000) (hq : q = 0) :
    Calls Try.prog 45 #[.agg #[.bool s, .slice A n c, .slice B m d]] w (Gives (.bool false) w) := by
  have b0 := Lib.hid ((Below.refl w.heap.size w).alloc (Nat.le_refl _) (.cells #[.bool s, .slice A n c, .slice B m d] 40))
  have V1 := Lib.hid (valid_l (hx.keep b0.out).toLst hx.tightB)
  have V2 := Lib.hid (valid_l (hy.keep b0.out).toLst hy.tightB)
  have Z1 := Lib.hid (isZero_any _ _ _ _ _ _ (hy.keep b0.out) (by omega) true (decide_eq_true hq))
  clear hx hy hq
  go_enter Try.func45, Try.ntmps45
  go_wp2_with fail
  refine V1.out.mono ?_
  rintro e w' ⟨rfl, rfl⟩
  go_wp2_with fail
  refine V2.out.mono ?_
  rintro e w' ⟨rfl, rfl⟩
  go_wp2_with fail
  refine Z1.out.mono ?_
  rintro e w' ⟨rfl, rfl⟩
  go_wp2
  go_ret
  exact ⟨rfl, b0.out⟩
set_option maxRecDepth 100000 in
set_option maxHeartbeats 1000000 in
theorem fv_neg0 (A B : Option Addr) (n c m d : Nat) (xs ys : List Nat) (w : World) (p q : Nat) (hx : Num w A n c xs p) (hy : Num w B m d ys q) (hn : n ≤ 2000) (hm : m ≤ 2000) (hq : 0 < q) (hp : p = 0) :
    Calls Try.prog 45 #[.agg #[.bool true, .slice A n c, .slice B m d]] w (Gives (.bool false) w) := by
  have b0 := Lib.hid ((Below.refl w.heap.size w).alloc (Nat.le_refl _) (.cells #[.bool true, .slice A n c, .slice B m d] 40))
  have V1 := Lib.hid (valid_l (hx.keep b0.out).toLst hx.tightB)
  have V2 := Lib.hid (valid_l (hy.keep b0.out).toLst hy.tightB)
  have Z1 := Lib.hid (isZero_any _ _ _ _ _ _ (hy.keep b0.out) (by omega) false (decide_eq_false (by omega)))
  have Z2 := Lib.hid (isZero_any _ _ _ _ _ _ (hx.keep b0.out) (by omega) true (decide_eq_true hp))
  clear hx hy hq hp
  go_enter Try.func45, Try.ntmps45
  go_wp2_with fail
  refine V1.out.mono ?_
  rintro e w' ⟨rfl, rfl⟩
  go_wp2_with fail
  refine V2.out.mono ?_
  rintro e w' ⟨rfl, rfl⟩
  go_wp2_with fail
  refine Z1.out.mono ?_
  rintro e w' ⟨rfl, rfl⟩
  go_wp2_with fail
  refine Z2.out.mono ?_
  rintro e w' ⟨rfl, rfl⟩
  go_wp2
  go_ret
  exact ⟨rfl, b0.out⟩
set_option maxRecDepth 100000 in
set_option maxHeartbeats 1000000 in
theorem fv_pos (A B : Option Addr) (n c m d : Nat) (xs ys : List Nat) (w : World) (p q : Nat) (hx : Num w A n c xs p) (hy : Num w B m d ys q) (hn : n ≤ 2000) (hm : m ≤ 2000) (hq : 0 < q) (T : Nat) (hT : Nat.gcd p q = T) :
    Calls Try.prog 45 #[.agg #[.bool false, .slice A n c, .slice B m d]] w (Gives (.bool (decide (T = 1))) w) := by
  have b0 := Lib.hid ((Below.refl w.heap.size w).alloc (Nat.le_refl _) (.cells #[.bool false, .slice A n c, .slice B m d] 40))
  have V1 := Lib.hid (valid_l (hx.keep b0.out).toLst hx.tightB)
  have V2 := Lib.hid (valid_l (hy.keep b0.out).toLst hy.tightB)
  have Z1 := Lib.hid (isZero_any _ _ _ _ _ _ (hy.keep b0.out) (by omega) false (decide_eq_false (by omega)))
  have G1 := Lib.hid (fgcd_v (hx.keep b0.out) (hy.keep b0.out) hn hm hT)
  clear hx hy hq hT
  go_enter Try.func45, Try.ntmps45
  go_wp2_with fail
  refine V1.out.mono ?_
  rintro e w' ⟨rfl, rfl⟩
  go_wp2_with fail
  refine V2.out.mono ?_
  rintro e w' ⟨rfl, rfl⟩
  go_wp2_with fail
  refine Z1.out.mono ?_
  rintro e w' ⟨rfl, rfl⟩
  go_wp2_with fail
  refine G1.out.mono ?_
  rintro e w1 ⟨Ag, ng, cg, xg, rfl, hN, hb⟩
  have C1 := Lib.hid (isOne_any _ _ _ _ _ _ hN _ rfl)
  have B1 := Lib.hid (b0.out.trans (hb.mono b0.out.size))
  clear hN hb b0
  go_wp2_with fail
  refine C1.out.mono ?_
  rintro e w' ⟨rfl, rfl⟩
  go_wp2
  go_ret
  exact ⟨rfl, B1.out⟩
set_option maxRecDepth 100000 in
set_option maxHeartbeats 1000000 in
theorem fv_neg (A B : Option Addr) (n c m d : Nat) (xs ys : List Nat) (w : World) (p q : Nat) (hx : Num w A n c xs p) (hy : Num w B m d ys q) (hn : n ≤ 2000) (hm : m ≤ 2000) (hq : 0 < q) (hp : 0 < p) (T : Nat) (hT : Nat.gcd p q = T) :
    Calls Try.prog 45 #[.agg #[.bool true, .slice A n c, .slice B m d]] w (Gives (.bool (decide (T = 1))) w) := by
  have b0 := Lib.hid ((Below.refl w.heap.size w).alloc (Nat.le_refl _) (.cells #[.bool true, .slice A n c, .slice B m d] 40))
  have V1 := Lib.hid (valid_l (hx.keep b0.out).toLst hx.tightB)
  have V2 := Lib.hid (valid_l (hy.keep b0.out).toLst hy.tightB)
  have Z1 := Lib.hid (isZero_any _ _ _ _ _ _ (hy.keep b0.out) (by omega) false (decide_eq_false (by omega)))
  have Z2 := Lib.hid (isZero_any _ _ _ _ _ _ (hx.keep b0.out) (by omega) false (decide_eq_false (by omega)))
  have G1 := Lib.hid (fgcd_v (hx.keep b0.out) (hy.keep b0.out) hn hm hT)
  clear hx hy hq hp hT
  go_enter Try.func45, Try.ntmps45
  go_wp2_with fail
  refine V1.out.mono ?_
  rintro e w' ⟨rfl, rfl⟩
  go_wp2_with fail
  refine V2.out.mono ?_
  rintro e w' ⟨rfl, rfl⟩
  go_wp2_with fail
  refine Z1.out.mono ?_
  rintro e w' ⟨rfl, rfl⟩
  go_wp2_with fail
  refine Z2.out.mono ?_
  rintro e w' ⟨rfl, rfl⟩
  go_wp2_with fail
  refine G1.out.mono ?_
  rintro e w1 ⟨Ag, ng, cg, xg, rfl, hN, hb⟩
  have C1 := Lib.hid (isOne_any _ _ _ _ _ _ hN _ rfl)
  have B1 := Lib.hid (b0.out.trans (hb.mono b0.out.size))
  clear hN hb b0
  go_wp2_with fail
  refine C1.out.mono ?_
  rintro e w' ⟨rfl, rfl⟩
  go_wp2
  go_ret
  exact ⟨rfl, B1.out⟩
/-- A fraction in lowest terms. -/
def validB (s : Bool) (xs ys : List Nat) : Bool := tightB xs && tightB ys && decide (0 < dval ys) && (!s || decide (0 < dval xs)) && decide (Nat.gcd (dval xs) (dval ys) = 1)
theorem fvalid_any (s : Bool) (A B : Option Addr) (n c m d : Nat) (xs ys : List Nat) (w : World) (hx : Lst w A n c xs) (hy : Lst w B m d ys) (hn : n ≤ 2000) (hm : m ≤ 2000) :
    Calls Try.prog 45 #[.agg #[.bool s, .slice A n c, .slice B m d]] w (Gives (.bool (validB s xs ys)) w) := by
  unfold validB
  cases t1 : tightB xs
  · exact fv_badX s A B n c m d xs ys w hx hy t1
  cases t2 : tightB ys
  · exact fv_badY s A B n c m d xs ys w hx hy t1 t2
  have X : Num w A n c xs (dval xs) := ⟨hx, (tightB_iff xs).1 t1, rfl⟩
  have Y : Num w B m d ys (dval ys) := ⟨hy, (tightB_iff ys).1 t2, rfl⟩
  clear hx hy t1 t2
  generalize dval xs = p at *
  generalize dval ys = q at *
  rcases Nat.eq_zero_or_pos q with hq | hq
  · rw [decide_eq_false (show ¬ 0 < q by omega)]
    exact fv_den0 s A B n c m d xs ys w p q X Y hn hm hq
  rw [decide_eq_true hq]
  rcases Nat.eq_zero_or_pos p with hp | hp
  · rw [decide_eq_false (show ¬ 0 < p by omega)]
    cases s
    · have := fv_pos A B n c m d xs ys w p q X Y hn hm hq _ rfl
      simpa using this
    · exact fv_neg0 A B n c m d xs ys w p q X Y hn hm hq hp
  · rw [decide_eq_true hp]
    cases s
    · have := fv_pos A B n c m d xs ys w p q X Y hn hm hq _ rfl
      simpa using this
    · have := fv_neg A B n c m d xs ys w p q X Y hn hm hq hp _ rfl
      simpa using this
set_option maxRecDepth 100000 in
theorem same_len (A B : Option Addr) (n c m d : Nat) (w : World) (h : n ≠ m) (hn : n ≤ 9223372036854775807) (hm : m ≤ 9223372036854775807) :
    Calls Try.prog 37 #[.slice A n c, .slice B m d] w (Gives (.bool false) w) := by
  have hne : ((n : Int) != (m : Int)) = true := bne_iff_ne.2 (by omega)
  clear h
  go_enter Try.func37, Try.ntmps37
  go_wp2
  go_ret
  exact ⟨rfl, Below.refl _ _⟩
set_option maxRecDepth 100000 in
set_option maxHeartbeats 1000000 in
theorem same_one (A B : Option Addr) (c d x y : Nat) (w : World) (h : Lst w A 1 c [x]) (h' : Lst w B 1 d [y]) (hne : x ≠ y) :
    Calls Try.prog 37 #[.slice A 1 c, .slice B 1 d] w (Gives (.bool false) w) := by
  obtain ⟨ad, rfl, _, hc⟩ := h.at_ (k := 0) (by omega)
  obtain ⟨ad', rfl, _, hc'⟩ := h'.at_ (k := 0) (by omega)
  have e : ((x : Int) != (y : Int)) = true := bne_iff_ne.2 (by omega)
  have h1 := h.cap
  have h2 := h'.cap
  simp only [List.getD_cons_zero] at hc hc'
  rw [add_zero_] at hc hc'
  clear h h' hne
  go_enter Try.func37, Try.ntmps37
  go_wp2
  refine wp_loop_rounds 1 ?_
  rw [rounds_succ]
  go_wp2
  go_quiet (fail)
  go_wp2
  go_ret
  exact ⟨rfl, by first | exact (Below.refl _ _) | exact below_drewN (Below.refl _ _) _⟩
theorem one_of {w : World} {A : Option Addr} {c T : Nat} {xs : List Nat} (h : Num w A 1 c xs T) : xs = [T] := by
  have h1 := h.len
  have h2 := h.val
  match xs, h1 with
  | [x], _ => simp [dval] at h2; rw [h2]
/-- Held against 1. -/
theorem same_unit {w : World} {A B : Option Addr} {n c T : Nat} {xs : List Nat} (h : Num w A n c xs T) (h' : Lst w B 1 1 [1]) :
    Calls Try.prog 37 #[.slice A n c, .slice B 1 1] w (Gives (.bool (decide (T = 1))) w) := by
  by_cases h1 : n = 1
  · subst h1
    obtain rfl := one_of h
    by_cases h2 : T = 1
    · subst h2; exact same_yes A B 1 c 1 1 [1] w h.toLst h'
    · rw [decide_eq_false h2]; exact same_one A B c 1 T 1 w h.toLst h' h2
  · have e : T ≠ 1 := fun ha => h1 (by
      have h2 := h.len_le (k := 1) (by rw [ha]; decide)
      have h3 := h.npos (by omega)
      omega)
    rw [decide_eq_false e]
    exact same_len A B n c 1 1 w h1 (by have := h.room; omega) (by decide)
set_option maxRecDepth 100000 in
set_option maxHeartbeats 2000000 in
theorem lowest_any (s : Bool) (A B : Option Addr) (n c m d : Nat) (xs ys : List Nat) (w : World) (hx : Lst w A n c xs) (hy : Lst w B m d ys) (hn : n ≤ 2000) (hm : m ≤ 2000) :
    Calls Try.prog 22 #[.agg #[.bool s, .slice A n c, .slice B m d]] w (Gives (.bool (validB s xs ys)) w) := by
  have b0 := Lib.hid ((Below.refl w.heap.size w).alloc (Nat.le_refl _) (.cells #[.bool s, .slice A n c, .slice B m d] 40))
  have H0 := Lib.hid (FB.new w s A n c B m d)
  obtain ⟨h0, h1, h2, _, _, _⟩ := H0.out.facts
  unfold validB
  cases t1 : tightB xs
  · have V1 := Lib.hid (rvalid_l (hx.keep b0.out) t1)
    clear hx hy t1
    go_enter Try.func22, Try.ntmps22
    go_wp2_with fail
    refine V1.out.mono ?_
    rintro e w' ⟨rfl, rfl⟩
    go_wp2
    go_ret
    exact ⟨rfl, b0.out⟩
  cases t2 : tightB ys
  · have V1 := Lib.hid (rvalid_l (hx.keep b0.out) t1)
    have V2 := Lib.hid (rvalid_l (hy.keep b0.out) t2)
    clear hx hy t1 t2
    go_enter Try.func22, Try.ntmps22
    go_wp2_with fail
    refine V1.out.mono ?_
    rintro e w' ⟨rfl, rfl⟩
    go_wp2_with fail
    refine V2.out.mono ?_
    rintro e w' ⟨rfl, rfl⟩
    go_wp2
    go_ret
    exact ⟨rfl, b0.out⟩
  have X : Num w A n c xs (dval xs) := ⟨hx, (tightB_iff xs).1 t1, rfl⟩
  have Y : Num w B m d ys (dval ys) := ⟨hy, (tightB_iff ys).1 t2, rfl⟩
  have V1 := Lib.hid (rvalid_l (hx.keep b0.out) t1)
  have V2 := Lib.hid (rvalid_l (hy.keep b0.out) t2)
  clear hx hy t1 t2
  generalize dval xs = p at *
  generalize dval ys = q at *
  rcases Nat.eq_zero_or_pos q with hq | hq
  · have hm0 : m = 0 := by subst hq; exact Y.nzero
    rw [decide_eq_false (show ¬ 0 < q by omega)]
    subst hm0
    clear X Y
    go_enter Try.func22, Try.ntmps22
    go_wp2_with fail
    refine V1.out.mono ?_
    rintro e w' ⟨rfl, rfl⟩
    go_wp2_with fail
    refine V2.out.mono ?_
    rintro e w' ⟨rfl, rfl⟩
    go_wp2
    go_ret
    exact ⟨rfl, b0.out⟩
  have mz : ((m : Int) == 0) = false := beq_eq_false_iff_ne.2 (by have := Y.npos hq; omega)
  rw [decide_eq_true hq]
  have G : s = false ∨ 0 < p → Calls Try.prog 22 #[.agg #[.bool s, .slice A n c, .slice B m d]] w (Gives (.bool (decide (Nat.gcd p q = 1))) w) := fun hs => by
    obtain ⟨T, hT⟩ : ∃ T, Nat.gcd p q = T := ⟨_, rfl⟩
    have eT : decide (Nat.gcd p q = 1) = decide (T = 1) := decide_eq_decide.2 (by rw [hT])
    have G1 := Lib.hid (hT ▸ rgcd_any A B n c m d p q xs ys _ (X.keep b0.out) (Y.keep b0.out) (by omega) (by omega))
    rw [eT]
    have nz : s = true → ((n : Int) == 0) = false := fun h => beq_eq_false_iff_ne.2 (by
      have := X.npos (hs.resolve_left (by rw [h]; decide))
      omega)
    clear X Y hs hq hT eT
    cases s
    · clear nz
      go_enter Try.func22, Try.ntmps22
      go_wp2_with fail
      refine V1.out.mono ?_
      rintro e w' ⟨rfl, rfl⟩
      go_wp2_with fail
      refine V2.out.mono ?_
      rintro e w' ⟨rfl, rfl⟩
      go_wp2_with fail
      refine G1.out.mono ?_
      rintro e w1 ⟨Ag, ng, cg, xg, rfl, hN, hb⟩
      have B1 := Lib.hid ((b0.out.trans (hb.mono b0.out.size)).alloc (b0.out.trans (hb.mono b0.out.size)).size (.cells #[.int .u32 1] 63))
      have S := Lib.hid (same_unit (hN.keep (below_alloc w1 (.cells #[.int .u32 1] 63))) (one_lst _ w1.heap.size 1 (by decide) (heap_new w1 _)))
      clear hb b0 hN
      go_wp2_with fail
      refine S.out.mono ?_
      rintro e w2 ⟨rfl, hb⟩
      have B2 := Lib.hid (B1.out.trans (hb.mono B1.out.size))
      clear hb
      go_wp2
      go_ret
      exact ⟨rfl, B2.out⟩
    · have nz := nz rfl
      go_enter Try.func22, Try.ntmps22
      go_wp2_with fail
      refine V1.out.mono ?_
      rintro e w' ⟨rfl, rfl⟩
      go_wp2_with fail
      refine V2.out.mono ?_
      rintro e w' ⟨rfl, rfl⟩
      go_wp2_with fail
      refine G1.out.mono ?_
      rintro e w1 ⟨Ag, ng, cg, xg, rfl, hN, hb⟩
      have B1 := Lib.hid ((b0.out.trans (hb.mono b0.out.size)).alloc (b0.out.trans (hb.mono b0.out.size)).size (.cells #[.int .u32 1] 63))
      have S := Lib.hid (same_unit (hN.keep (below_alloc w1 (.cells #[.int .u32 1] 63))) (one_lst _ w1.heap.size 1 (by decide) (heap_new w1 _)))
      clear hb b0 hN
      go_wp2_with fail
      refine S.out.mono ?_
      rintro e w2 ⟨rfl, hb⟩
      have B2 := Lib.hid (B1.out.trans (hb.mono B1.out.size))
      clear hb
      go_wp2
      go_ret
      exact ⟨rfl, B2.out⟩
  rcases Nat.eq_zero_or_pos p with hp | hp
  · cases s
    · have := G (.inl rfl)
      simpa using this
    · rw [decide_eq_false (show ¬ 0 < p by omega)]
      have hn0 : n = 0 := by subst hp; exact X.nzero
      subst hn0
      clear X Y G
      go_enter Try.func22, Try.ntmps22
      go_wp2_with fail
      refine V1.out.mono ?_
      rintro e w' ⟨rfl, rfl⟩
      go_wp2_with fail
      refine V2.out.mono ?_
      rintro e w' ⟨rfl, rfl⟩
      go_wp2
      go_ret
      exact ⟨rfl, b0.out⟩
  · rw [decide_eq_true hp]
    have := G (.inr hp)
    simpa using this
end Go.Proofs.Ytebfnbnaheolgaa
