/- Contracts of fraction.withSign, round, Floor, Ceil: no claim of its own. -/
import Derived.Test.YtbllnkhbahenkaaGreatDoorFrac
import Derived.Test.YtbllnkhbahenkaaGreatDoorCmp
namespace Go.Proofs.YtbllnkhbahenkaaGreatDoor
open Go.RowKit
/-- An integer out of its sign and its size, if it fits. -/
def ws (neg : Bool) (x : Nat) (fits : Bool) : Int × Bool := if fits = false ∨ 9223372036854775808 < x ∨ (x = 9223372036854775808 ∧ neg = false) then (0, false) else (Fr.num neg x, true)
set_option maxRecDepth 100000 in
set_option maxHeartbeats 400000 in
theorem ws_nofit (neg : Bool) (x : Nat) (w : World) :
    Calls Tryz.prog 77 #[.bool neg, .int .u64 x, .bool false] w fun e w' => e = .returned (.tuple #[.int .i64 (0), .bool false]) ∧ w = w' := by
  go_enter Tryz.func77, Tryz.ntmps77
  go_wp2
  go_ret2
  exact ⟨rfl, rfl⟩
set_option maxRecDepth 100000 in
set_option maxHeartbeats 400000 in
theorem ws_big (neg : Bool) (x : Nat) (h : 9223372036854775808 < x) (hx : x < 18446744073709551616) (w : World) :
    Calls Tryz.prog 77 #[.bool neg, .int .u64 x, .bool true] w fun e w' => e = .returned (.tuple #[.int .i64 (0), .bool false]) ∧ w = w' := by
  have hd : decide ((9223372036854775808 : Int) < (x : Int)) = true := decide_eq_true (by omega)
  have hd2 : decide (9223372036854775808 < x) = true := decide_eq_true h
  go_enter Tryz.func77, Tryz.ntmps77
  go_wp2
  go_ret2
  exact ⟨rfl, rfl⟩
set_option maxRecDepth 100000 in
set_option maxHeartbeats 400000 in
theorem ws_edge  (w : World) :
    Calls Tryz.prog 77 #[.bool false, .int .u64 9223372036854775808, .bool true] w fun e w' => e = .returned (.tuple #[.int .i64 (0), .bool false]) ∧ w = w' := by
  go_enter Tryz.func77, Tryz.ntmps77
  go_wp2
  go_ret2
  exact ⟨rfl, rfl⟩
set_option maxRecDepth 100000 in
set_option maxHeartbeats 400000 in
theorem ws_edge_neg  (w : World) :
    Calls Tryz.prog 77 #[.bool true, .int .u64 9223372036854775808, .bool true] w fun e w' => e = .returned (.tuple #[.int .i64 (-9223372036854775808), .bool true]) ∧ w = w' := by
  go_enter Tryz.func77, Tryz.ntmps77
  go_wp2
  go_ret2
  have e : wrap64 (IntKind.u64.wrap (-9223372036854775808)) = -9223372036854775808 := by rw [IntKind.wrap_u64]; first | rfl | decide | (simp [wrap64])
  exact ⟨congrArg (fun z => Ending.returned (.tuple #[.int .i64 z, .bool true])) e, rfl⟩
set_option maxRecDepth 100000 in
set_option maxHeartbeats 400000 in
theorem ws_pos (x : Nat) (h : x < 9223372036854775808) (w : World) :
    Calls Tryz.prog 77 #[.bool false, .int .u64 x, .bool true] w fun e w' => e = .returned (.tuple #[.int .i64 ((x : Int)), .bool true]) ∧ w = w' := by
  have hd : decide ((9223372036854775808 : Int) < (x : Int)) = false := decide_eq_false (by omega)
  have hd2 : decide (9223372036854775808 < x) = false := decide_eq_false (by omega)
  have he : ((x : Int) == 9223372036854775808) = false := beq_eq_false_iff_ne.2 (by omega)
  go_enter Tryz.func77, Tryz.ntmps77
  go_wp2
  go_ret2
  exact ⟨rfl, rfl⟩
set_option maxRecDepth 100000 in
set_option maxHeartbeats 400000 in
theorem ws_neg (x : Nat) (h : x < 9223372036854775808) (w : World) :
    Calls Tryz.prog 77 #[.bool true, .int .u64 x, .bool true] w fun e w' => e = .returned (.tuple #[.int .i64 (-(x : Int)), .bool true]) ∧ w = w' := by
  have hd : decide ((9223372036854775808 : Int) < (x : Int)) = false := decide_eq_false (by omega)
  have hd2 : decide (9223372036854775808 < x) = false := decide_eq_false (by omega)
  have he : ((x : Int) == 9223372036854775808) = false := beq_eq_false_iff_ne.2 (by omega)
  have e1 : IntKind.i64.wrap (IntKind.u64.wrap (-(x : Int))) = -(x : Int) := by rw [IntKind.wrap_u64, IntKind.wrap_i64]; omega
  go_enter Tryz.func77, Tryz.ntmps77
  go_wp2
  go_ret2
  exact ⟨rfl, rfl⟩
theorem ws_any (neg : Bool) (x : Nat) (fits : Bool) (hx : x < 18446744073709551616) (w : World) :
    Calls Tryz.prog 77 #[.bool neg, .int .u64 x, .bool fits] w fun e w' => e = .returned (.tuple #[.int .i64 (ws neg x fits).1, .bool (ws neg x fits).2]) ∧ w = w' := by
  cases fits
  · have e : ws neg x false = (0, false) := by unfold ws; rw [if_pos (.inl rfl)]
    rw [e]; exact ws_nofit neg x w
  · rcases Nat.lt_or_ge 9223372036854775808 x with h | h
    · have e : ws neg x true = (0, false) := by unfold ws; rw [if_pos (.inr (.inl h))]
      rw [e]; exact ws_big neg x h hx w
    · by_cases h2 : x = 9223372036854775808
      · subst h2
        cases neg
        · have e : ws false 9223372036854775808 true = (0, false) := by unfold ws; rw [if_pos (.inr (.inr ⟨rfl, rfl⟩))]
          rw [e]; exact ws_edge w
        · have e : ws true 9223372036854775808 true = (-9223372036854775808, true) := by unfold ws; rw [if_neg (by decide)]; rfl
          rw [e]; exact ws_edge_neg w
      · have e : ws neg x true = (Fr.num neg x, true) := by
          unfold ws
          rw [if_neg]
          rintro (h3 | h3 | h3)
          · cases h3
          · omega
          · exact h2 h3.1
        rw [e]
        cases neg
        · exact ws_pos x (by omega) w
        · exact ws_neg x (by omega) w
/-- The size of a fraction that is rounded. -/
def rsz (p q : Nat) (away : Bool) : Nat := if away = true ∧ 0 < p % q then p / q + 1 else p / q
def rv2 (neg : Bool) (p q : Nat) (away : Bool) : Int × Bool := ws neg (if rsz p q away < 18446744073709551616 then rsz p q away else 0) (decide (rsz p q away < 18446744073709551616))
theorem uint_s {A : Option Addr} {n c a u : Nat} {xs : List Nat} {w : World} {z : Bool} (h : Num w A n c xs a) (hu : (if a < 18446744073709551616 then a else 0) = u) (hz : decide (a < 18446744073709551616) = z) :
    Calls Tryz.prog 76 #[.slice A n c] w fun e w' => e = .returned (.tuple #[.int .u64 (u : Int), .bool z]) ∧ w = w' := by
  have C := uint_any A n c a xs w h
  have e1 : (if n ≤ 2 then a else 0) = u := by rw [← hu]; simp only [h.small]
  have e2 : decide (n ≤ 2) = z := by rw [← hz]; simp only [h.small]
  rw [e1, e2] at C
  exact C
theorem Gives.eq {v v' : Value} (h : v = v') {w w' : World} {e : Ending} (g : Gives v w e w') : Gives v' w e w' := h ▸ g
set_option maxRecDepth 100000 in
set_option maxHeartbeats 1000000 in
theorem round_no (s : Bool) (A B : Option Addr) (n c m d p q i : Nat) (xs ys : List Nat) (w : World) (hx : Num w A n c xs p) (hy : Num w B m d ys q) (hq : 0 < q) (pp : p < 4294967296 ^ i) (pq : q < 4294967296 ^ i) (hi : i ≤ 400000) (u : Nat) (z : Bool) (hu : (if p / q < 18446744073709551616 then p / q else 0) = u) (hz : decide (p / q < 18446744073709551616) = z) :
    Calls Tryz.prog 45 #[.agg #[.bool s, .slice A n c, .slice B m d], .bool false] w (Gives (.tuple #[.int .i64 (ws s u z).1, .bool (ws s u z).2]) w) := by
  have B0 := Lib.hid ((Below.refl w.heap.size w).alloc (Nat.le_refl _) (.cells #[.bool s, .slice A n c, .slice B m d] 25))
  have X0 := Lib.hid (hx.keep B0.out)
  have Y0 := Lib.hid (hy.keep B0.out)
  have H0 := Lib.hid (FB.new w s A n c B m d)
  have PP := Lib.hid pp
  have PQ := Lib.hid pq
  have HQ := Lib.hid hq
  have pD : Hid (p / q < 4294967296 ^ i) := Lib.hid (pw_le (Nat.div_le_self _ _) pp)
  have pM : Hid (p % q < 4294967296 ^ i) := Lib.hid (pw_le (Nat.le_of_lt (Nat.mod_lt _ hq)) pq)
  have p1 : Hid ((1 : Nat) < 4294967296 ^ 1) := Lib.hid (by decide)
  have HU := Lib.hid hu
  have HZ := Lib.hid hz
  have ul : u < 18446744073709551616 := by rw [← hu]; split <;> omega
  have WS := Lib.hid (fun w' => ws_any s u z ul w')
  skip
  clear hx hy hq pp pq hu hz
  generalize (ws s u z).1 = r1 at *
  generalize (ws s u z).2 = r2 at *
  go_enter Tryz.func45, Tryz.ntmps45
  go_wp2_with fail
  refine (divMod_s X0.out Y0.out HQ.out PP.out PQ.out (by omega) (by omega)).mono ?_
  rintro e w1 ⟨_, _, _, _, _, _, _, _, rfl, hn, hr', hb⟩
  have Q1 := Lib.hid (hn)
  have R1 := Lib.hid (hr')
  have H1 := Lib.hid (H0.out.keep hb)
  have B1 := Lib.hid (B0.out.trans (hb.mono B0.out.size))
  clear hb B0 X0 Y0 H0 hn hr'
  obtain ⟨Ha, Hb, Hc, Hd, He, Hf⟩ := H1.out.facts
  go_wp2_with fail
  refine (uint_s Q1.out HU.out HZ.out).mono ?_
  rintro e w' ⟨rfl, rfl⟩
  go_wp2_with fail
  refine (WS.out _).mono ?_
  rintro e w' ⟨rfl, rfl⟩
  go_wp2
  go_ret2
  exact ⟨rfl, B1.out⟩
set_option maxRecDepth 100000 in
set_option maxHeartbeats 1000000 in
theorem round_zero (s : Bool) (A B : Option Addr) (n c m d p q i : Nat) (xs ys : List Nat) (w : World) (hx : Num w A n c xs p) (hy : Num w B m d ys q) (hq : 0 < q) (pp : p < 4294967296 ^ i) (pq : q < 4294967296 ^ i) (hi : i ≤ 400000) (hr : p % q = 0) (u : Nat) (z : Bool) (hu : (if p / q < 18446744073709551616 then p / q else 0) = u) (hz : decide (p / q < 18446744073709551616) = z) :
    Calls Tryz.prog 45 #[.agg #[.bool s, .slice A n c, .slice B m d], .bool true] w (Gives (.tuple #[.int .i64 (ws s u z).1, .bool (ws s u z).2]) w) := by
  have B0 := Lib.hid ((Below.refl w.heap.size w).alloc (Nat.le_refl _) (.cells #[.bool s, .slice A n c, .slice B m d] 25))
  have X0 := Lib.hid (hx.keep B0.out)
  have Y0 := Lib.hid (hy.keep B0.out)
  have H0 := Lib.hid (FB.new w s A n c B m d)
  have PP := Lib.hid pp
  have PQ := Lib.hid pq
  have HQ := Lib.hid hq
  have pD : Hid (p / q < 4294967296 ^ i) := Lib.hid (pw_le (Nat.div_le_self _ _) pp)
  have pM : Hid (p % q < 4294967296 ^ i) := Lib.hid (pw_le (Nat.le_of_lt (Nat.mod_lt _ hq)) pq)
  have p1 : Hid ((1 : Nat) < 4294967296 ^ 1) := Lib.hid (by decide)
  have HU := Lib.hid hu
  have HZ := Lib.hid hz
  have ul : u < 18446744073709551616 := by rw [← hu]; split <;> omega
  have WS := Lib.hid (fun w' => ws_any s u z ul w')
  have ZR := Lib.hid (decide_eq_true hr)
  clear hx hy hq pp pq hu hz hr
  generalize (ws s u z).1 = r1 at *
  generalize (ws s u z).2 = r2 at *
  go_enter Tryz.func45, Tryz.ntmps45
  go_wp2_with fail
  refine (divMod_s X0.out Y0.out HQ.out PP.out PQ.out (by omega) (by omega)).mono ?_
  rintro e w1 ⟨_, _, _, _, _, _, _, _, rfl, hn, hr', hb⟩
  have Q1 := Lib.hid (hn)
  have R1 := Lib.hid (hr')
  have H1 := Lib.hid (H0.out.keep hb)
  have B1 := Lib.hid (B0.out.trans (hb.mono B0.out.size))
  clear hb B0 X0 Y0 H0 hn hr'
  obtain ⟨Ha, Hb, Hc, Hd, He, Hf⟩ := H1.out.facts
  go_wp2_with fail
  refine (isZero_s R1.out pM.out (by omega) ZR.out).mono ?_
  rintro e w' ⟨rfl, rfl⟩
  go_wp2_with fail
  refine (uint_s Q1.out HU.out HZ.out).mono ?_
  rintro e w' ⟨rfl, rfl⟩
  go_wp2_with fail
  refine (WS.out _).mono ?_
  rintro e w' ⟨rfl, rfl⟩
  go_wp2
  go_ret2
  exact ⟨rfl, B1.out⟩
set_option maxRecDepth 100000 in
set_option maxHeartbeats 1000000 in
theorem round_pos (s : Bool) (A B : Option Addr) (n c m d p q i : Nat) (xs ys : List Nat) (w : World) (hx : Num w A n c xs p) (hy : Num w B m d ys q) (hq : 0 < q) (pp : p < 4294967296 ^ i) (pq : q < 4294967296 ^ i) (hi : i ≤ 400000) (hr : 0 < p % q) (u : Nat) (z : Bool) (hu : (if p / q + 1 < 18446744073709551616 then p / q + 1 else 0) = u) (hz : decide (p / q + 1 < 18446744073709551616) = z) :
    Calls Tryz.prog 45 #[.agg #[.bool s, .slice A n c, .slice B m d], .bool true] w (Gives (.tuple #[.int .i64 (ws s u z).1, .bool (ws s u z).2]) w) := by
  have B0 := Lib.hid ((Below.refl w.heap.size w).alloc (Nat.le_refl _) (.cells #[.bool s, .slice A n c, .slice B m d] 25))
  have X0 := Lib.hid (hx.keep B0.out)
  have Y0 := Lib.hid (hy.keep B0.out)
  have H0 := Lib.hid (FB.new w s A n c B m d)
  have PP := Lib.hid pp
  have PQ := Lib.hid pq
  have HQ := Lib.hid hq
  have pD : Hid (p / q < 4294967296 ^ i) := Lib.hid (pw_le (Nat.div_le_self _ _) pp)
  have pM : Hid (p % q < 4294967296 ^ i) := Lib.hid (pw_le (Nat.le_of_lt (Nat.mod_lt _ hq)) pq)
  have p1 : Hid ((1 : Nat) < 4294967296 ^ 1) := Lib.hid (by decide)
  have HU := Lib.hid hu
  have HZ := Lib.hid hz
  have ul : u < 18446744073709551616 := by rw [← hu]; split <;> omega
  have WS := Lib.hid (fun w' => ws_any s u z ul w')
  have ZR : Hid (decide (p % q = 0) = false) := Lib.hid (decide_eq_false (by omega))
  clear hx hy hq pp pq hu hz hr
  generalize (ws s u z).1 = r1 at *
  generalize (ws s u z).2 = r2 at *
  go_enter Tryz.func45, Tryz.ntmps45
  go_wp2_with fail
  refine (divMod_s X0.out Y0.out HQ.out PP.out PQ.out (by omega) (by omega)).mono ?_
  rintro e w1 ⟨_, _, _, _, _, _, _, _, rfl, hn, hr', hb⟩
  have Q1 := Lib.hid (hn)
  have R1 := Lib.hid (hr')
  have H1 := Lib.hid (H0.out.keep hb)
  have B1 := Lib.hid (B0.out.trans (hb.mono B0.out.size))
  clear hb B0 X0 Y0 H0 hn hr'
  obtain ⟨Ha, Hb, Hc, Hd, He, Hf⟩ := H1.out.facts
  go_wp2_with fail
  refine (isZero_s R1.out pM.out (by omega) ZR.out).mono ?_
  rintro e w' ⟨rfl, rfl⟩
  go_wp2_with fail
  refine (fromUint_any 1 (by decide) _).mono ?_
  rintro e w2 ⟨_, _, _, _, rfl, hn, hb⟩
  clear Ha Hb Hc Hd He Hf
  have O2 := Lib.hid (hn)
  have H2 := Lib.hid (H1.out.keep hb)
  have Q2 := Lib.hid (Q1.out.keep hb)
  have R2 := Lib.hid (R1.out.keep hb)
  have B2 := Lib.hid (B1.out.trans (hb.mono B1.out.size))
  clear hb B1 H1 Q1 R1 hn
  obtain ⟨Ha, Hb, Hc, Hd, He, Hf⟩ := H2.out.facts
  go_wp2_with fail
  refine (add_s Q2.out O2.out pD.out p1.out (by omega) (by decide)).mono ?_
  rintro e w3 ⟨_, _, _, _, rfl, hn, hb⟩
  clear Ha Hb Hc Hd He Hf
  have S3 := Lib.hid (hn)
  have H3 := Lib.hid (H2.out.keep hb)
  have R3 := Lib.hid (R2.out.keep hb)
  have B3 := Lib.hid (B2.out.trans (hb.mono B2.out.size))
  clear hb B2 H2 Q2 R2 O2 hn
  obtain ⟨Ha, Hb, Hc, Hd, He, Hf⟩ := H3.out.facts
  go_wp2_with fail
  refine (uint_s S3.out HU.out HZ.out).mono ?_
  rintro e w' ⟨rfl, rfl⟩
  go_wp2_with fail
  refine (WS.out _).mono ?_
  rintro e w' ⟨rfl, rfl⟩
  go_wp2
  go_ret2
  exact ⟨rfl, B3.out⟩
theorem round_any (s away : Bool) (A B : Option Addr) (n c m d p q i : Nat) (xs ys : List Nat) (w : World) (hx : Num w A n c xs p) (hy : Num w B m d ys q) (hq : 0 < q) (pp : p < 4294967296 ^ i) (pq : q < 4294967296 ^ i) (hi : i ≤ 400000) :
    Calls Tryz.prog 45 #[.agg #[.bool s, .slice A n c, .slice B m d], .bool away] w (Gives (.tuple #[.int .i64 (rv2 s p q away).1, .bool (rv2 s p q away).2]) w) := by
  unfold rv2
  cases away
  · have e : rsz p q false = p / q := by unfold rsz; rw [if_neg (by simp)]
    rw [e]
    exact round_no s A B n c m d p q i xs ys w hx hy hq pp pq hi _ _ rfl rfl
  · rcases Nat.eq_zero_or_pos (p % q) with h | h
    · have e : rsz p q true = p / q := by unfold rsz; rw [if_neg (by simp [h])]
      rw [e]
      exact round_zero s A B n c m d p q i xs ys w hx hy hq pp pq hi h _ _ rfl rfl
    · have e : rsz p q true = p / q + 1 := by unfold rsz; rw [if_pos ⟨rfl, h⟩]
      rw [e]
      exact round_pos s A B n c m d p q i xs ys w hx hy hq pp pq hi h _ _ rfl rfl
set_option maxRecDepth 100000 in
set_option maxHeartbeats 400000 in
theorem floor_any (s : Bool) (A B : Option Addr) (n c m d p q i : Nat) (xs ys : List Nat) (w : World) (hx : Num w A n c xs p) (hy : Num w B m d ys q) (hq : 0 < q) (pp : p < 4294967296 ^ i) (pq : q < 4294967296 ^ i) (hi : i ≤ 400000) :
    Calls Tryz.prog 19 #[.agg #[.bool s, .slice A n c, .slice B m d]] w (Gives (.tuple #[.int .i64 (rv2 s p q s).1, .bool (rv2 s p q s).2]) w) := by
  have B0 := Lib.hid ((Below.refl w.heap.size w).alloc (Nat.le_refl _) (.cells #[.bool s, .slice A n c, .slice B m d] 25))
  have RD := Lib.hid (round_any s s A B n c m d p q i xs ys _ (hx.keep B0.out) (hy.keep B0.out) hq pp pq hi)
  clear hx hy hq pp pq
  generalize (rv2 s p q s).1 = r1 at *
  generalize (rv2 s p q s).2 = r2 at *
  go_enter Tryz.func19, Tryz.ntmps19
  go_wp2_with fail
  refine RD.out.mono ?_
  rintro e w1 ⟨rfl, hb⟩
  have B1 := Lib.hid (B0.out.trans (hb.mono B0.out.size))
  clear hb
  go_wp2
  go_ret2
  exact ⟨rfl, B1.out⟩
set_option maxRecDepth 100000 in
set_option maxHeartbeats 400000 in
theorem ceil_any (s : Bool) (A B : Option Addr) (n c m d p q i : Nat) (xs ys : List Nat) (w : World) (hx : Num w A n c xs p) (hy : Num w B m d ys q) (hq : 0 < q) (pp : p < 4294967296 ^ i) (pq : q < 4294967296 ^ i) (hi : i ≤ 400000) :
    Calls Tryz.prog 37 #[.agg #[.bool s, .slice A n c, .slice B m d]] w (Gives (.tuple #[.int .i64 (rv2 s p q (!s)).1, .bool (rv2 s p q (!s)).2]) w) := by
  have B0 := Lib.hid ((Below.refl w.heap.size w).alloc (Nat.le_refl _) (.cells #[.bool s, .slice A n c, .slice B m d] 25))
  have RD := Lib.hid (round_any s (!s) A B n c m d p q i xs ys _ (hx.keep B0.out) (hy.keep B0.out) hq pp pq hi)
  clear hx hy hq pp pq
  generalize (rv2 s p q (!s)).1 = r1 at *
  generalize (rv2 s p q (!s)).2 = r2 at *
  go_enter Tryz.func37, Tryz.ntmps37
  go_wp2_with fail
  refine RD.out.mono ?_
  rintro e w1 ⟨rfl, hb⟩
  have B1 := Lib.hid (B0.out.trans (hb.mono B0.out.size))
  clear hb
  go_wp2
  go_ret2
  exact ⟨rfl, B1.out⟩
end Go.Proofs.YtbllnkhbahenkaaGreatDoor
