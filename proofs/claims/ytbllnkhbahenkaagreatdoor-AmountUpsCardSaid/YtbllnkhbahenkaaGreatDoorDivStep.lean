/- The contract of natural.subtractProduct: no claim of its own. -/
import Derived.Test.YtbllnkhbahenkaaGreatDoorBase
import Derived.Test.YtbllnkhbahenkaaGreatDoorMaths
import Derived.IntWalk
import Derived.Test.YtbllnkhbahenkaaGreatDoorMul
namespace Go.Proofs.YtbllnkhbahenkaaGreatDoor
open Go.RowKit
/-- The window afterwards, with a borrow if that is called for, holds what it held less ys times f. -/
def SubsProduct (g : Nat) (pre win post ys : List Nat) (f : Nat) (w : World) (e : Ending) (w' : World) : Prop :=
  ∃ win' neg, e = .returned (.bool neg) ∧ Win w' g pre win' post ∧ win'.length = win.length ∧ dval win' + f * dval ys = dval win + (if neg then 4294967296 ^ win.length else 0) ∧ w.grownBy w' (some g)
/-- What holds after k digits. -/
def SubPInv (g n : Nat) (pre win post ys : List Nat) (f : Nat) (w : World) (k c : Nat) (wr : World) : Prop :=
  ∃ cur, Win wr g pre cur post ∧ cur.length = n ∧ win.length = n ∧ w.grownBy wr (some g) ∧ (∀ j, k ≤ j → cur.getD j 0 = win.getD j 0) ∧ dval cur + f * dval (ys.take k) = dval win + 4294967296 ^ k * c
theorem SubPInv.drewN {g n : Nat} {pre win post ys : List Nat} {f : Nat} {w wr : World} {k c : Nat} (h : SubPInv g n pre win post ys f w k c wr) (q : Nat) : SubPInv g n pre win post ys f w k c (wr.drewN q) := by
  obtain ⟨cur, hw, hn, hm, hg, hu, hv⟩ := h
  exact ⟨cur, hw.drewN q, hn, hm, grown_trans hg (grown_drewN _ _ _), hu, hv⟩
theorem subp_math (P C f T W c x r y lo hi b S : Nat) (hv : C + f * T = W + P * c) (h1 : S + P * x = C + P * r) (h2 : r + lo = x + 4294967296 * b) (h3 : 4294967296 * hi + lo = c + y * f) :
    S + f * (T + P * y) = W + P * 4294967296 * (hi + b) := by
  have e2 := congrArg (P * ·) h2
  have e3 := congrArg (P * ·) h3
  simp only [Nat.mul_add] at e2 e3
  have a1 : P * (y * f) = f * (P * y) := by rw [Nat.mul_comm y f, ← Nat.mul_assoc, Nat.mul_comm P f, Nat.mul_assoc]
  have a2 : P * (4294967296 * hi) = P * 4294967296 * hi := by rw [Nat.mul_assoc]
  have a3 : P * (4294967296 * b) = P * 4294967296 * b := by rw [Nat.mul_assoc]
  rw [Nat.mul_add, Nat.mul_add]
  rw [a1, a2] at e3
  rw [a3] at e2
  omega
theorem SubPInv.step {g n off : Nat} {pre win post ys : List Nat} {f : Nat} {w wr : World} {k c : Nat} (h : SubPInv g n pre win post ys f w k c wr) (ho : pre.length = off) (hk : k < n) (y x lo hi b : Nat) (hx : win.getD k 0 = x) (hy : dval (ys.take (k + 1)) = dval (ys.take k) + 4294967296 ^ k * y)
    (h3 : 4294967296 * hi + lo = c + y * f) (hlo : lo < 4294967296) (hb : b = if x < lo then 1 else 0) (u : Int) (hu : u = (((x + 4294967296 - lo) % 4294967296 : Nat) : Int)) :
    SubPInv g n pre win post ys f w (k + 1) (hi + b) (wr.setCell ⟨g, off + k, none⟩ (.int .u32 u)) := by
  subst hu
  obtain ⟨cur, hw, hn, hm, hg, hu, hv⟩ := h
  have hxl : x < 4294967296 := by rw [← hx, ← hu k (Nat.le_refl _)]; exact getD_lt_of hw.lt k
  refine ⟨cur.set k ((x + 4294967296 - lo) % 4294967296), hw.set ho (by omega) _ (Nat.mod_lt _ (by decide)), by simpa using hn, hm, grown_trans hg (grown_set _ _ _ _), fun j hj => ?_, ?_⟩
  · rw [getD_set _ _ _ _ (by omega), if_neg (by omega)]; exact hu j (by omega)
  · have h1 := dval_set cur k ((x + 4294967296 - lo) % 4294967296) (by omega)
    rw [hu k (Nat.le_refl _), hx] at h1
    have h2 := subp_digit x lo hxl hlo
    rw [← hb] at h2
    rw [hy, Nat.pow_succ]
    exact subp_math _ _ _ _ _ _ _ _ _ _ _ _ _ hv h1 h2 h3
theorem SubPInv.fin {g n off m : Nat} {pre win post ys : List Nat} {f : Nat} {w wr : World} {c z : Nat} (h : SubPInv g n pre win post ys f w m c wr) (ho : pre.length = off) (hn : n = m + 1) (hc : c < 4294967296) (hz : win.getD m 0 = z) (hy : ys.length = m) (u : Int) (hu : u = (((z + 4294967296 - c) % 4294967296 : Nat) : Int)) :
    SubsProduct g pre win post ys f w (.returned (.bool (decide (z < c)))) (wr.setCell ⟨g, off + m, none⟩ (.int .u32 u)) := by
  subst hu
  obtain ⟨cur, hw, hl, hm, hg, hu, hv⟩ := h
  have hxl : z < 4294967296 := by rw [← hz, ← hu m (Nat.le_refl _)]; exact getD_lt_of hw.lt m
  rw [List.take_of_length_le (by omega)] at hv
  refine ⟨cur.set m ((z + 4294967296 - c) % 4294967296), _, rfl, hw.set ho (by omega) _ (Nat.mod_lt _ (by decide)), by simp; omega, ?_, grown_trans hg (grown_set _ _ _ _)⟩
  have h1 := dval_set cur m ((z + 4294967296 - c) % 4294967296) (by omega)
  rw [hu m (Nat.le_refl _), hz] at h1
  have h2 := subp_digit z c hxl hc
  have e2 := congrArg (4294967296 ^ m * ·) h2
  simp only [Nat.mul_add] at e2
  rw [hm, hn, Nat.pow_succ]
  by_cases hlt : z < c
  · rw [if_pos hlt, Nat.mul_one] at e2
    rw [decide_eq_true hlt, if_pos rfl]
    omega
  · rw [if_neg hlt, Nat.mul_zero] at e2
    rw [decide_eq_false hlt, if_neg (by decide)]
    omega
set_option maxRecDepth 100000 in
set_option maxHeartbeats 1000000 in
theorem subtractProduct_any (g off n c m d f : Nat) (B : Option Addr) (pre win post ys : List Nat) (w : World) (hw : Win w g pre win post) (ho : pre.length = off) (hn : win.length = n) (hc : n ≤ c) (hr : c ≤ 35184372088832)
    (hy : Lst w B m d ys) (hne : 0 < m → ∀ ad, B = some ad → ad.block ≠ g) (hm : n = m + 1) (hf : f < 4294967296) :
    Calls Tryz.prog 155 #[.slice (some ⟨g, off, none⟩) n c, .slice B m d, .int .u32 f] w (SubsProduct g pre win post ys f w) := by
  have H0 : Hid (SubPInv g n pre win post ys f w 0 0 w) := Lib.hid ⟨win, hw, hn, hn, ⟨rfl, rfl, rfl, Nat.le_refl _, fun _ _ _ => rfl⟩, fun _ _ => rfl, by simp [dval]⟩
  have HY := Lib.hid hy
  have HO := Lib.hid ho
  have HN := Lib.hid hne
  have HM := Lib.hid hm
  have hmn : m < n := by omega
  have hnm : n ≤ m + 1 := by omega
  clear hy ho hne hw hn hm
  go_enter Tryz.func155, Tryz.ntmps155
  go_wp2
  go_loopw [7, 13] (fun cv i wr => ∃ k cy : Nat, k ≤ m ∧ cy < 4294967296 ∧ i = .int .i64 k ∧ cv = .int .u64 cy ∧ Hid (SubPInv g n pre win post ys f w k cy wr)) (fun _ i _ => m - (intOf i).toNat)
  case atStart => exact ⟨0, 0, by omega, by omega, rfl, rfl, H0⟩
  case round =>
    obtain ⟨k, cy, hk, hcy, rfl, rfl, hi⟩ := hrel
    by_cases hlt : k < m
    · obtain ⟨hcell, hfz, hx, hy2, L⟩ : wr.cell? ⟨g, off + k, none⟩ = some (.int .u32 ((win.getD k 0 : Nat) : Int)) ∧ wr.frozen? ⟨g, off + k, none⟩ = false ∧ win.getD k 0 < 4294967296 ∧ Hid (dval (ys.take (k + 1)) = dval (ys.take k) + 4294967296 ^ k * ys.getD k 0) ∧ Lst wr B m d ys := by
          obtain ⟨cur, hw, h1, h2, hg, hu, hv⟩ := hi.out
          have e := hu k (Nat.le_refl _)
          exact ⟨by rw [hw.cell HO.out (by omega), e], hw.frozen _, by rw [← e]; exact getD_lt_of hw.lt k, Lib.hid (dval_take_succ ys k (by rw [HY.out.len]; exact hlt)), HY.out.off hg HN.out⟩
      have hyl := L.getD_lt k
      obtain ⟨ad, rfl, hb, hyc⟩ := L.at_ hlt
      obtain ⟨x, hxe⟩ : ∃ x, win.getD k 0 = x := ⟨_, rfl⟩
      obtain ⟨y, hye⟩ : ∃ y, ys.getD k 0 = y := ⟨_, rfl⟩
      rw [hye] at hyc hyl hy2
      have hcar := subp_carry cy y f (by omega) hyl hf
      have hp : (y : Int) * (f : Int) ≤ 18446744065119617025 := by
        have := Nat.mul_le_mul (show y ≤ 4294967295 by omega) (show f ≤ 4294967295 by omega)
        have e : ((y * f : Nat) : Int) = (y : Int) * (f : Int) := Int.natCast_mul _ _
        omega
      have hp0 : 0 ≤ (y : Int) * (f : Int) := Int.mul_nonneg (by omega) (by omega)
      obtain ⟨lo, hlo⟩ : ∃ lo, (cy + y * f) % 4294967296 = lo := ⟨_, rfl⟩
      obtain ⟨hi', hhi⟩ : ∃ hi', (cy + y * f) / 4294967296 = hi' := ⟨_, rfl⟩
      have hd := Nat.div_add_mod (cy + y * f) 4294967296
      rw [hlo, hhi] at hd
      have hlol : lo < 4294967296 := by omega
      have hhil : hi' < 4294967296 := by omega
      have e1 : ((cy : Int) + (y : Int) * (f : Int)) % 4294967296 = (lo : Int) := by
        have e : ((y * f : Nat) : Int) = (y : Int) * (f : Int) := Int.natCast_mul _ _
        omega
      have e2 : ((cy : Int) + (y : Int) * (f : Int)) / 4294967296 = (hi' : Int) := by
        have e : ((y * f : Nat) : Int) = (y : Int) * (f : Int) := Int.natCast_mul _ _
        omega
      have htop : hi' = 4294967295 → lo = 0 := by
        intro h
        generalize y * f = z at *
        omega
      have R := fun b hb u hu => Lib.hid (hi.out.step HO.out (by omega) y x lo hi' b hxe hy2.out hd hlol hb u hu)
      rw [hxe] at hcell hx
      clear L hy2 hb hi H0 hxe hye hcar hd hlo hhi
      by_cases hxlo : x < lo
      · have hh1 : hi' + 1 < 4294967296 := by
          rcases Nat.lt_or_ge (hi' + 1) 4294967296 with h | h
          · exact h
          · have := htop (by omega); omega
        have RR := R 1 (by rw [if_pos hxlo])
        clear R htop
        go_wp2
        go_roundw
        case rel => exact ⟨k + 1, hi' + 1, by omega, hh1, by go_num, by go_num, RR _ (by omega)⟩
        case measure => simp [intOf]; omega
      · have RR := R 0 (by rw [if_neg hxlo])
        clear R htop
        go_wp2
        go_roundw
        case rel => exact ⟨k + 1, hi', by omega, hhil, by go_num, by go_num, RR _ (by omega)⟩
        case measure => simp [intOf]; omega
    · obtain rfl : k = m := by omega
      obtain ⟨z, hz⟩ : ∃ z, win.getD k 0 = z := ⟨_, rfl⟩
      have F := fun u hu => Lib.hid (hi.out.fin HO.out HM.out hcy hz HY.out.len u hu)
      obtain ⟨hfz, hcell, hzl⟩ : wr.frozen? ⟨g, off + k, none⟩ = false ∧ wr.cell? ⟨g, off + k, none⟩ = some (.int .u32 ((win.getD k 0 : Nat) : Int)) ∧ win.getD k 0 < 4294967296 := by
        obtain ⟨cur, hw, h1, h2, hg, hu, hv⟩ := hi.out
        exact ⟨hw.frozen _, by rw [hw.cell HO.out (by omega), hu k (Nat.le_refl _)], by rw [← hu k (Nat.le_refl _)]; exact getD_lt_of hw.lt k⟩
      rw [hz] at hcell hzl
      clear hi H0 hz
      go_wp2
      go_ret
      exact (F _ (by omega)).out
end Go.Proofs.YtbllnkhbahenkaaGreatDoor
/- The contract of natural.estimate: no claim of its own. -/
namespace Go.Proofs.YtbllnkhbahenkaaGreatDoor
open Go.RowKit
/-- The quotient of W and D, or one more. -/
def Estimates (W D : Nat) (w : World) (e : Ending) (w' : World) : Prop :=
  ∃ f : Nat, e = .returned (.int .u32 (f : Int)) ∧ W / D ≤ f ∧ f ≤ W / D + 1 ∧ f < 4294967296 ∧ ∃ q, w' = w.drewN q
theorem Est.of' (xs ys : List Nat) (n : Nat) (h2 : 2 ≤ n) (hx : xs.length = n + 1) (hy : ys.length = n) (lx : ∀ d ∈ xs, d < 4294967296) (ly : ∀ d ∈ ys, d < 4294967296) (ht : 2147483648 ≤ ys.getD (n - 1) 0) (h : dval xs < 4294967296 * dval ys) :
    Est (dval xs) (dval ys) (xs.getD n 0) (xs.getD (n - 1) 0) (xs.getD (n - 2) 0) (ys.getD (n - 1) 0) (ys.getD (n - 2) 0) := by
  obtain ⟨m, rfl⟩ : ∃ m, n = m + 2 := ⟨n - 2, by omega⟩
  exact Est.of xs ys m (by omega) (by omega) lx ly ht h
theorem est_first {W D a b c t u H F R : Nat} (h : Est W D a b c t u) (hH : a * 4294967296 + b = H) (hF : F = min (H / t) 4294967295) (hR : R = H - F * t) : F * t + R = H ∧ W / D ≤ F ∧ R < 8589934592 ∧ F * t ≤ H := by
  have h1 := h.start
  have h2 := h.most
  have h3 := h.high
  have ht := h.top
  have hlt := h.lt
  rw [hH] at h1 h3
  have e := Nat.div_add_mod H t
  have l := Nat.mod_lt H (show 0 < t by omega)
  have hle : F * t ≤ H := by
    have : F ≤ H / t := by rw [hF]; exact Nat.min_le_left _ _
    have := Nat.mul_le_mul_right t this
    exact Nat.le_trans this (Nat.div_mul_le_self _ _)
  refine ⟨by omega, by rw [hF]; exact Nat.le_min.2 ⟨h1, h2⟩, ?_, hle⟩
  rcases Nat.lt_or_ge 4294967295 (H / t) with hq | hq
  · have hF' : F = 4294967295 := by rw [hF]; exact Nat.min_eq_right (by omega)
    subst hF'
    omega
  · have hF' : F = H / t := by rw [hF]; exact Nat.min_eq_left hq
    rw [Nat.mul_comm] at e
    rw [← hF'] at e
    omega
set_option maxRecDepth 100000 in
set_option maxHeartbeats 1000000 in
theorem estimate_any (n c m d : Nat) (A B : Option Addr) (xs ys : List Nat) (w : World) (hx : Lst w A m c xs) (hy : Lst w B n d ys) (h2 : 2 ≤ n) (hm : m = n + 1) (ht : 2147483648 ≤ ys.getD (n - 1) 0) (hW : dval xs < 4294967296 * dval ys) :
    Calls Tryz.prog 154 #[.slice A m c, .slice B n d] w (Estimates (dval xs) (dval ys) w) := by
  subst hm
  have E := Est.of' xs ys n h2 hx.len hy.len hx.lt hy.lt ht hW
  obtain ⟨ad, rfl, _, hc0⟩ := hx.at_ (k := n) (by omega)
  obtain ⟨ad', e, _, hc1⟩ := hx.at_ (k := n - 1) (by omega)
  injection e with e
  subst e
  obtain ⟨ad', e, _, hc2⟩ := hx.at_ (k := n - 2) (by omega)
  injection e with e
  subst e
  obtain ⟨bd, rfl, _, hd1⟩ := hy.at_ (k := n - 1) (by omega)
  obtain ⟨bd', e, _, hd2⟩ := hy.at_ (k := n - 2) (by omega)
  injection e with e
  subst e
  have hr := hx.room
  have hr2 := hx.cap
  have hr3 := hy.cap
  clear hx hy hW
  generalize xs.getD n 0 = a at *
  generalize xs.getD (n - 1) 0 = b at *
  generalize xs.getD (n - 2) 0 = z at *
  generalize ys.getD (n - 1) 0 = t at *
  generalize ys.getD (n - 2) 0 = u at *
  generalize dval xs = W at *
  generalize dval ys = D at *
  have la := E.la
  have lb := E.lb
  have lz := E.lc
  have lt := E.lt
  have lu := E.lu
  obtain ⟨H, hH⟩ : ∃ H, a * 4294967296 + b = H := ⟨_, rfl⟩
  obtain ⟨F, hF⟩ : ∃ F, F = min (H / t) 4294967295 := ⟨_, rfl⟩
  obtain ⟨R, hR⟩ : ∃ R, R = H - F * t := ⟨_, rfl⟩
  obtain ⟨i1, i2, i3, i4⟩ := est_first E hH hF hR
  have hor : bits BinOp.or IntKind.u64 ((a : Int) * 4294967296) (b : Int) = (H : Int) := by rw [bits_hi_lo a b la lb]; omega
  have hHl : H < 18446744073709551616 := by omega
  have hFl : F ≤ 4294967295 := by rw [hF]; exact Nat.min_le_right _ _
  have hQl : H / t ≤ H := Nat.div_le_self _ _
  have hq : (H : Int) / (t : Int) = ((H / t : Nat) : Int) := (Int.natCast_ediv _ _).symm
  obtain ⟨Q, hQ⟩ : ∃ Q, H / t = Q := ⟨_, rfl⟩
  rw [hQ] at hq hQl hF
  have hq4 : (H : Int).tdiv (t : Int) = (Q : Int) := by rw [Int.tdiv_eq_ediv_of_nonneg (by omega), hq]
  have hmin : (if (4294967295 : Int) < (Q : Int) then (4294967295 : Int) else (Q : Int)) = (F : Int) := by
    rw [hF]
    rcases Nat.lt_or_ge 4294967295 Q with h | h
    · rw [if_pos (by omega), Nat.min_eq_right (by omega)]; rfl
    · rw [if_neg (by omega), Nat.min_eq_left h]
  clear hQ
  have ht1 : (1 : Int) ≤ (t : Int) := by omega
  have hp : (F : Int) * (t : Int) ≤ (H : Int) := by
    have e : ((F * t : Nat) : Int) = (F : Int) * (t : Int) := Int.natCast_mul _ _
    omega
  have hp0 : 0 ≤ (F : Int) * (t : Int) := Int.mul_nonneg (by omega) (by omega)
  have hs : (H : Int) - (F : Int) * (t : Int) = (R : Int) := by
    have e : ((F * t : Nat) : Int) = (F : Int) * (t : Int) := Int.natCast_mul _ _
    omega
  have EE := Lib.hid E
  have I0 := Lib.hid i1
  have I1 := Lib.hid i2
  have HH := Lib.hid hH
  have FF := Lib.hid hF
  clear E hF hH hR i1 i2 i4
  go_enter Tryz.func154, Tryz.ntmps154
  go_wp2
  go_quiet (fail)
  go_wp2
  go_quiet (fail)
  go_wp2
  clear hq hq4 hmin hor hp hp0 hs hc0 hc1 hd1 hd2
  go_loop [9, 10] (fun fv rv => ∃ f r : Nat, f ≤ 4294967295 ∧ r < 8589934592 ∧ fv = .int .u64 f ∧ rv = .int .u64 r ∧ Hid (f * t + r = H ∧ W / D ≤ f)) (fun fv _ => (intOf fv).toNat)
  case atStart => exact ⟨F, R, hFl, i3, rfl, rfl, Lib.hid ⟨I0.out, I1.out⟩⟩
  case round =>
    obtain ⟨f, r, hf, hr4, rfl, rfl, hi⟩ := hrel
    by_cases h1 : r ≤ 4294967295
    · have ho2 := bits_hi_lo r z (by omega) lz
      obtain ⟨P, hP⟩ : ∃ P, f * u = P := ⟨_, rfl⟩
      have hPl : P ≤ 18446744065119617025 := by
        rw [← hP]; exact Nat.mul_le_mul hf (show u ≤ 4294967295 by omega)
      have hP2 : (f : Int) * (u : Int) = (P : Int) := by rw [← hP]; exact (Int.natCast_mul _ _).symm
      by_cases h3 : r * 4294967296 + z < P
      · have S := EE.out.step (hi.out.1.trans HH.out.symm) (by rw [hP]; exact h3)
        have f1 : 1 ≤ f := Nat.lt_of_le_of_lt (Nat.zero_le _) S
        have J : Hid ((f - 1) * t + (r + t) = H ∧ W / D ≤ f - 1) := Lib.hid ⟨by
          have := hi.out.1
          rw [Nat.sub_mul, Nat.one_mul]
          have h5 : 1 * t ≤ f * t := Nat.mul_le_mul_right t f1
          omega, by omega⟩
        clear hi S hP
        go_wp2
        go_round
        case rel => exact ⟨f - 1, r + t, by omega, by omega, by go_num, by go_num, J⟩
        case measure => simp [intOf]; omega
      · have X := Lib.hid (EE.out.exit hf (hi.out.1.trans HH.out.symm) (by rw [hP]; omega))
        have X2 := Lib.hid hi.out.2
        clear hi hP
        go_wp2
        go_ret
        exact ⟨f, rfl, X2.out, X.out, by omega, ⟨_, rfl⟩⟩
    · have X := Lib.hid (EE.out.exit' hf (hi.out.1.trans HH.out.symm) (by omega))
      have X2 := Lib.hid hi.out.2
      have hdec : decide (r ≤ 4294967295) = false := decide_eq_false h1
      have hdec2 : decide ((r : Int) ≤ 4294967295) = false := decide_eq_false (by omega)
      clear hi
      go_wp2
      go_ret
      exact ⟨f, rfl, X2.out, X.out, by omega, ⟨_, rfl⟩⟩
end Go.Proofs.YtbllnkhbahenkaaGreatDoor
/- The contract of natural.divideStep: no claim of its own. -/
namespace Go.Proofs.YtbllnkhbahenkaaGreatDoor
open Go.RowKit
/-- The window afterwards holds the rest; the quotient is handed back. -/
def StepsDiv (g : Nat) (pre win post ys : List Nat) (w : World) (e : Ending) (w' : World) : Prop :=
  ∃ win', e = .returned (.int .u32 ((dval win / dval ys : Nat) : Int)) ∧ Win w' g pre win' post ∧ win'.length = win.length ∧ dval win' = dval win % dval ys ∧ w.grownBy w' (some g)
theorem step_add {W D X win win2 c : Nat} (h1 : win + D = W % D + X) (h2 : win2 + X * c = win + D) (hc : c ≤ 1) (hw : win2 < X) (_hD : W % D < X) : win2 = W % D := by
  rcases (show c = 0 ∨ c = 1 by omega) with rfl | rfl <;> omega
set_option maxRecDepth 100000 in
set_option maxHeartbeats 1000000 in
theorem divideStep_any (g off n c m d : Nat) (B : Option Addr) (pre win post ys : List Nat) (w : World) (hw : Win w g pre win post) (ho : pre.length = off) (hn : win.length = m) (hc : m ≤ c) (hr : c ≤ 35184372088832)
    (hy : Lst w B n d ys) (hne : 0 < n → ∀ ad, B = some ad → ad.block ≠ g) (hm : m = n + 1) (h2 : 2 ≤ n) (ht : 2147483648 ≤ ys.getD (n - 1) 0) (hW : dval win < 4294967296 * dval ys) :
    Calls Tryz.prog 132 #[.slice (some ⟨g, off, none⟩) m c, .slice B n d] w (StepsDiv g pre win post ys w) := by
  have hD : 0 < dval ys := by
    rcases Nat.eq_zero_or_pos (dval ys) with h | h
    · rw [h] at hW; omega
    · exact h
  have hDX : dval ys < 4294967296 ^ win.length := by
    have h1 := dval_lt ys hy.lt
    rw [hy.len] at h1
    have h3 : (4294967296 : Nat) ^ n ≤ 4294967296 ^ win.length := Nat.pow_le_pow_right (by decide) (by omega)
    omega
  have HE := Lib.hid (estimate_any n c m d (some ⟨g, off, none⟩) B win ys w (by have := hw.lst (off := off) (c := c) ho (by omega) (by omega); rwa [hn] at this) hy h2 hm ht hW)
  have HS := fun q f hf => Lib.hid (subtractProduct_any g off m c n d f B pre win post ys (w.drewN q) (hw.drewN q) ho hn hc hr ⟨hy.reads.drewN q, hy.len, hy.cap, hy.room, hy.lt⟩ hne hm hf)
  have HY := Lib.hid hy
  have HO := Lib.hid ho
  have HN := Lib.hid hne
  have HL := Lib.hid hn
  have HD := Lib.hid hD
  have HX := Lib.hid hDX
  have HM := Lib.hid hm
  clear hy ho hne hw hn ht hW hD hDX hm
  go_enter Tryz.func132, Tryz.ntmps132
  go_wp2_with fail
  refine HE.out.mono ?_
  rintro e w1 ⟨f, rfl, hf1, hf2, hf3, q, rfl⟩
  have HS2 := HS q f hf3
  have F1 := Lib.hid hf1
  have F2 := Lib.hid hf2
  clear HS hf1 hf2 HE
  go_wp2_with fail
  refine HS2.out.mono ?_
  rintro e w2 ⟨win2, neg, rfl, hw2, hl2, hv2, hg2⟩
  have hlt : dval win2 < 4294967296 ^ win.length := by
    have := dval_lt win2 hw2.lt
    rwa [hl2] at this
  have R := step_end HD.out F1.out F2.out (by rw [Nat.mul_comm] at hv2; rw [Nat.mul_comm f]; rw [Nat.mul_comm (dval ys)] at hv2; rw [Nat.mul_comm (dval ys)]; exact hv2) hlt
  have hg3 : w.grownBy w2 (some g) := grown_trans (grown_drewN _ _ _) hg2
  cases neg
  · obtain ⟨rfl, hmod⟩ := R.1 rfl
    have G : Hid (StepsDiv g pre win post ys w (.returned (.int .u32 ((dval win / dval ys : Nat) : Int))) w2) := Lib.hid ⟨win2, rfl, hw2, hl2, hmod, hg3⟩
    clear R hw2 hl2 hv2 hg2 hg3 hlt hmod HS2 F1 F2
    generalize dval win / dval ys = Q at *
    go_wp2
    go_ret
    exact G.out
  · obtain ⟨hfe, hmod⟩ := R.2 rfl
    have f1 : 1 ≤ f := by rw [hfe]; exact Nat.le_add_left _ _
    have L2 : Lst w2 B n d ys := HY.out.off hg3 HN.out
    have HA := Lib.hid (addTo_any g off m c n d B pre win2 post ys w2 hw2 HO.out (hl2.trans HL.out) hc hr L2 HN.out (by have := HM.out; omega))
    have HV := Lib.hid hmod
    have HF : Hid (dval win / dval ys = f - 1) := Lib.hid (by rw [hfe]; rfl)
    have HL2 := Lib.hid hl2
    have HG := Lib.hid hg3
    clear R hw2 hl2 hv2 hg2 hg3 hlt hmod HS2 F1 F2 L2 hfe
    go_wp2_with fail
    refine HA.out.mono ?_
    rintro e w3 ⟨win3, cy, rfl, hw3, hl3, hc3, hv3, hg4⟩
    have hlt3 : dval win3 < 4294967296 ^ win.length := by
      have := dval_lt win3 hw3.lt
      rwa [hl3, HL2.out] at this
    have hlm : dval win % dval ys < 4294967296 ^ win.length := Nat.lt_trans (Nat.mod_lt _ HD.out) HX.out
    have hfin := step_add HV.out (by rw [HL2.out] at hv3; exact hv3) hc3 hlt3 hlm
    have G : Hid (StepsDiv g pre win post ys w (.returned (.int .u32 ((dval win / dval ys : Nat) : Int))) w3) := Lib.hid ⟨win3, rfl, hw3, hl3.trans HL2.out, hfin, grown_trans HG.out hg4⟩
    rw [HF.out] at G
    clear hw3 hl3 hc3 hv3 hg4 hlt3 hlm hfin HA HV HF
    have ef : (((f - 1 : Nat) : Int)) = (f : Int) - 1 := by omega
    rw [ef] at G
    clear ef
    go_wp2
    go_ret
    exact G.out
end Go.Proofs.YtbllnkhbahenkaaGreatDoor
