/- Contracts of fraction.opposite, Neg, Sign, FromInt, zero: no claim of its own. -/
import Derived.Test.YtgmjpkkpkdcncaaDoorMake
import Derived.BigRegion
namespace Go.Proofs.YtgmjpkkpkdcncaaDoor
open Go.RowKit
set_option maxRecDepth 100000 in
set_option maxHeartbeats 1000000 in
theorem opp_false (A B : Option Addr) (n c m d p q : Nat) (xs ys : List Nat) (w : World) (hx : Num w A n c xs p) (hy : Num w B m d ys q) (hn : n ≤ 900000) (zb : Bool) (hzb : decide (p = 0) = zb) :
    Calls Tryd.prog 74 #[.agg #[.bool false, .slice A n c, .slice B m d]] w (GivesFr ⟨!zb, p, q⟩ w) := by
  have b0 := Lib.hid ((((Below.refl w.heap.size w).alloc (Nat.le_refl _) (.cells #[.bool false, .slice A n c, .slice B m d] 41)).alloc (by simp) (.cells #[.bool false, .slice none 0 0, .slice none 0 0] 41)).drew)
  have KX := Lib.hid hx
  have KY := Lib.hid hy
  have HX := Lib.hid (hx.keep b0.out)
  have HY := Lib.hid (hy.keep b0.out)
  have H0 := Lib.hid (((FB.new w false A n c B m d).alloc (.cells #[.bool false, .slice none 0 0, .slice none 0 0] 41)).drew)
  have R0 := Lib.hid ((FB.new (w.alloc (.cells #[.bool false, .slice A n c, .slice B m d] 41)) false none 0 0 none 0 0).drew)
  rw [show (w.alloc (.cells #[.bool false, .slice A n c, .slice B m d] 41)).heap.size = w.heap.size + 1 by simp] at R0
  have HZ := Lib.hid (isZero_any A n c p xs _ HX.out (by omega) zb hzb)
  obtain ⟨r0, r1, r2, f0, f1, f2⟩ := R0.out.facts
  clear hx hy hzb
  go_enter Tryd.func74, Tryd.ntmps74
  go_wp2
  go_region_held3 (fun w' => w'.cell? ⟨w.heap.size, 0, none⟩ = some (.bool false) ∧ w'.cell? ⟨w.heap.size, 1, none⟩ = some (.slice A n c) ∧ w'.cell? ⟨w.heap.size, 2, none⟩ = some (.slice B m d)) (go_keep) (first | (go_at_call 61; refine HZ.out.mono ?_; rintro e w' ⟨rfl, rfl⟩))
  go_wp2
  refine bodyPost_ret (v := .agg #[.bool (!zb), .slice A n c, .slice B m d]) (by simp [results, Tryd.results74, go_sem]) rfl ?_
  have bb := (((Below.refl w.heap.size w).alloc (Nat.le_refl _) (.cells #[.bool false, .slice A n c, .slice B m d] 41)).alloc (by simp) (.cells #[.bool (!zb), .slice A n c, .slice B m d] 41)).drew
  exact ⟨_, _, _, _, _, _, _, _, rfl, KX.out.keep bb, KY.out.keep bb, bb⟩
set_option maxRecDepth 100000 in
set_option maxHeartbeats 1000000 in
theorem opp_true (A B : Option Addr) (n c m d p q : Nat) (xs ys : List Nat) (w : World) (hx : Num w A n c xs p) (hy : Num w B m d ys q) (hn : n ≤ 900000)  :
    Calls Tryd.prog 74 #[.agg #[.bool true, .slice A n c, .slice B m d]] w (GivesFr ⟨false, p, q⟩ w) := by
  have b0 := Lib.hid ((((Below.refl w.heap.size w).alloc (Nat.le_refl _) (.cells #[.bool true, .slice A n c, .slice B m d] 41)).alloc (by simp) (.cells #[.bool false, .slice none 0 0, .slice none 0 0] 41)).drew)
  have KX := Lib.hid hx
  have KY := Lib.hid hy
  have HX := Lib.hid (hx.keep b0.out)
  have HY := Lib.hid (hy.keep b0.out)
  have H0 := Lib.hid (((FB.new w true A n c B m d).alloc (.cells #[.bool false, .slice none 0 0, .slice none 0 0] 41)).drew)
  have R0 := Lib.hid ((FB.new (w.alloc (.cells #[.bool true, .slice A n c, .slice B m d] 41)) false none 0 0 none 0 0).drew)
  rw [show (w.alloc (.cells #[.bool true, .slice A n c, .slice B m d] 41)).heap.size = w.heap.size + 1 by simp] at R0
  obtain ⟨r0, r1, r2, f0, f1, f2⟩ := R0.out.facts
  clear hx hy
  go_enter Tryd.func74, Tryd.ntmps74
  go_wp2
  go_big_region
  go_wp2
  refine bodyPost_ret (v := .agg #[.bool false, .slice A n c, .slice B m d]) (by simp [results, Tryd.results74, go_sem]) rfl ?_
  have bb := (((Below.refl w.heap.size w).alloc (Nat.le_refl _) (.cells #[.bool true, .slice A n c, .slice B m d] 41)).alloc (by simp) (.cells #[.bool false, .slice A n c, .slice B m d] 41)).drew
  exact ⟨_, _, _, _, _, _, _, _, rfl, KX.out.keep bb, KY.out.keep bb, bb⟩
theorem opp_any (s : Bool) (A B : Option Addr) (n c m d p q : Nat) (xs ys : List Nat) (w : World) (hx : Num w A n c xs p) (hy : Num w B m d ys q) (hn : n ≤ 900000) :
    Calls Tryd.prog 74 #[.agg #[.bool s, .slice A n c, .slice B m d]] w (GivesFr (Fr.neg ⟨s, p, q⟩) w) := by
  cases s
  · have e : (⟨!decide (p = 0), p, q⟩ : Fr) = Fr.neg ⟨false, p, q⟩ := by
      unfold Fr.neg
      have : (!decide (p = 0)) = (!false && decide (0 < p)) := by
        by_cases h : p = 0
        · subst h; rfl
        · rw [decide_eq_false h, decide_eq_true (by omega)]; rfl
      rw [this]
    exact (opp_false A B n c m d p q xs ys w hx hy hn _ rfl).mono fun _ _ h => GivesFr.eq e h
  · exact opp_true A B n c m d p q xs ys w hx hy hn
set_option maxRecDepth 100000 in
set_option maxHeartbeats 1000000 in
theorem negFr_any (s : Bool) (A B : Option Addr) (n c m d p q i : Nat) (xs ys : List Nat) (w : World) (hx : Num w A n c xs p) (hy : Num w B m d ys q) (hp : p < 4294967296 ^ i) (hq : q < 4294967296 ^ i) (hi : i ≤ 900000) :
    Calls Tryd.prog 55 #[.agg #[.bool s, .slice A n c, .slice B m d]] w (GivesFr (Fr.neg ⟨s, p, q⟩) w) := by
  have B0 := Lib.hid (((Below.refl w.heap.size w).alloc (Nat.le_refl _) (.cells #[.bool s, .slice A n c, .slice B m d] 41)).alloc (by simp) (.cells #[.bool false, .slice none 0 0, .slice none 0 0] 41))
  have X0 := Lib.hid (hx.keep B0.out)
  have Y0 := Lib.hid (hy.keep B0.out)
  have HP := Lib.hid hp
  have HQ := Lib.hid hq
  have hn : Hid (n ≤ 900000) := Lib.hid (hx.sh hp hi)
  have R0 := Lib.hid (FB.new (w.alloc (.cells #[.bool s, .slice A n c, .slice B m d] 41)) false none 0 0 none 0 0)
  rw [show (w.alloc (.cells #[.bool s, .slice A n c, .slice B m d] 41)).heap.size = w.heap.size + 1 by simp] at R0
  obtain ⟨z, hz⟩ : ∃ z, (Fr.neg ⟨s, p, q⟩).s = z := ⟨_, rfl⟩
  have OP := Lib.hid (opp_any s A B n c m d p q xs ys _ X0.out Y0.out hn.out)
  have TE : Hid ((⟨z, p, q⟩ : Fr) = Fr.neg ⟨s, p, q⟩) := Lib.hid (by rw [← hz]; rfl)
  rw [← TE.out] at OP
  clear hx hy hp hq hz
  go_enter Tryd.func55, Tryd.ntmps55
  go_wp2_with fail
  refine (OP.out).mono ?_
  rintro e w1 ⟨AU, nU, cU, xU, AV, nV, cV, xV, rfl, hn, hn', hb⟩
  have U1 := Lib.hid (hn)
  have V1 := Lib.hid (hn')
  have R1 := Lib.hid (R0.out.keep hb)
  have B1 := Lib.hid (B0.out.trans (hb.mono B0.out.size))
  clear hb B0 X0 Y0 R0 hn hn'
  go_wp2_with fail
  refine (cloneFr_s U1.out V1.out HP.out HQ.out hi hi).mono ?_
  rintro e w2 ⟨AP, nP, cP, xP, AQ, nQ, cQ, xQ, rfl, hn, hn', hb⟩
  have P2 := Lib.hid (hn)
  have Q2 := Lib.hid (hn')
  have R2 := Lib.hid (R1.out.keep hb)
  have B2 := Lib.hid (B1.out.trans (hb.mono B1.out.size))
  clear hb B1 R1 U1 V1 hn hn'
  obtain ⟨Ra, Rb, Rc, Rd, Re, Rf⟩ := R2.out.facts
  go_wp2
  refine bodyPost_ret (v := .agg #[.bool z, .slice AP nP cP, .slice AQ nQ cQ]) (by simp [results, Tryd.results55, go_sem, Ra, Rb, Rc]) rfl ?_
  refine GivesFr.eq TE.out ?_
  exact giveFr (t := ⟨z, p, q⟩) B2.out (by omega) R2.out P2.out Q2.out
set_option maxRecDepth 100000 in
set_option maxHeartbeats 400000 in
theorem signFr_zero (s : Bool) (A B : Option Addr) (n c m d p i : Nat) (xs : List Nat) (w : World) (hx : Num w A n c xs p) (hp : p < 4294967296 ^ i) (hi : i ≤ 900000) (h0 : p = 0) :
    Calls Tryd.prog 80 #[.agg #[.bool s, .slice A n c, .slice B m d]] w (Gives (.int .i64 (0)) w) := by
  skip
  have b0 := Lib.hid ((Below.refl w.heap.size w).alloc (Nat.le_refl _) (.cells #[.bool s, .slice A n c, .slice B m d] 41))
  have HX := Lib.hid (hx.keep b0.out)
  have HZ := Lib.hid (isZero_s HX.out hp hi (b := true) (by first | exact decide_eq_true (by omega) | exact decide_eq_false (by omega)))
  clear hx hp h0
  go_enter Tryd.func80, Tryd.ntmps80
  go_wp2_with fail
  refine HZ.out.mono ?_
  rintro e w' ⟨rfl, rfl⟩
  go_wp2
  go_ret
  exact ⟨rfl, b0.out⟩
set_option maxRecDepth 100000 in
set_option maxHeartbeats 400000 in
theorem signFr_neg (s : Bool) (A B : Option Addr) (n c m d p i : Nat) (xs : List Nat) (w : World) (hx : Num w A n c xs p) (hp : p < 4294967296 ^ i) (hi : i ≤ 900000) (h0 : 0 < p) (hs : s = true) :
    Calls Tryd.prog 80 #[.agg #[.bool s, .slice A n c, .slice B m d]] w (Gives (.int .i64 (-1)) w) := by
  subst hs
  have b0 := Lib.hid ((Below.refl w.heap.size w).alloc (Nat.le_refl _) (.cells #[.bool true, .slice A n c, .slice B m d] 41))
  have HX := Lib.hid (hx.keep b0.out)
  have HZ := Lib.hid (isZero_s HX.out hp hi (b := false) (by first | exact decide_eq_true (by omega) | exact decide_eq_false (by omega)))
  clear hx hp h0
  go_enter Tryd.func80, Tryd.ntmps80
  go_wp2_with fail
  refine HZ.out.mono ?_
  rintro e w' ⟨rfl, rfl⟩
  go_wp2
  go_ret
  exact ⟨rfl, b0.out⟩
set_option maxRecDepth 100000 in
set_option maxHeartbeats 400000 in
theorem signFr_pos (s : Bool) (A B : Option Addr) (n c m d p i : Nat) (xs : List Nat) (w : World) (hx : Num w A n c xs p) (hp : p < 4294967296 ^ i) (hi : i ≤ 900000) (h0 : 0 < p) (hs : s = false) :
    Calls Tryd.prog 80 #[.agg #[.bool s, .slice A n c, .slice B m d]] w (Gives (.int .i64 (1)) w) := by
  subst hs
  have b0 := Lib.hid ((Below.refl w.heap.size w).alloc (Nat.le_refl _) (.cells #[.bool false, .slice A n c, .slice B m d] 41))
  have HX := Lib.hid (hx.keep b0.out)
  have HZ := Lib.hid (isZero_s HX.out hp hi (b := false) (by first | exact decide_eq_true (by omega) | exact decide_eq_false (by omega)))
  clear hx hp h0
  go_enter Tryd.func80, Tryd.ntmps80
  go_wp2_with fail
  refine HZ.out.mono ?_
  rintro e w' ⟨rfl, rfl⟩
  go_wp2
  go_ret
  exact ⟨rfl, b0.out⟩
def sgn (s : Bool) (p : Nat) : Int := if p = 0 then 0 else if s then -1 else 1
theorem signFr_any (s : Bool) (A B : Option Addr) (n c m d p i : Nat) (xs : List Nat) (w : World) (hx : Num w A n c xs p) (hp : p < 4294967296 ^ i) (hi : i ≤ 900000) :
    Calls Tryd.prog 80 #[.agg #[.bool s, .slice A n c, .slice B m d]] w (Gives (.int .i64 (sgn s p)) w) := by
  unfold sgn
  by_cases h : p = 0
  · rw [if_pos h]; exact signFr_zero s A B n c m d p i xs w hx hp hi h
  · rw [if_neg h]
    cases s
    · exact signFr_pos false A B n c m d p i xs w hx hp hi (by omega) rfl
    · exact signFr_neg true A B n c m d p i xs w hx hp hi (by omega) rfl
end Go.Proofs.YtgmjpkkpkdcncaaDoor
