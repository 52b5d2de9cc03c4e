/- DivLong, Divide, joined: no claim of its own. -/
import Derived.Test.YtbllnkhbahenkaaGreatDoorDivStep
import Derived.Test.YtbllnkhbahenkaaGreatDoorShift
import Derived.Test.YtbllnkhbahenkaaGreatDoorMaths
import Derived.Test.YtbllnkhbahenkaaGreatDoorBitsN
import Derived.Test.YtbllnkhbahenkaaGreatDoorDivS
namespace Go.Proofs.YtbllnkhbahenkaaGreatDoor
open Go.RowKit
/-- What holds when the digits of the quotient from j on are found. -/
def LongInv (g1 g2 g3 n m D A0 : Nat) (ds : List Nat) (w : World) (j : Nat) (wr : World) : Prop :=
  ∃ R Q, Win wr g1 [] R [] ∧ R.length = n + 1 ∧ Win wr g3 [] Q [] ∧ Q.length = n - m + 1 ∧ Lst wr (some ⟨g2, 0, none⟩) m m ds ∧ dval R + D * (4294967296 ^ j * dval (Q.drop j)) = A0 ∧ dval (R.drop j) < D ∧ Below w.heap.size w wr
theorem LongInv.fin {g1 g2 g3 n m D s a b : Nat} {ds : List Nat} {w wr : World} (h : LongInv g1 g2 g3 n m D (2 ^ s * a) ds w 0 wr) (hb : 0 < b) (hD : D = 2 ^ s * b) :
    ∃ R Q, Win wr g1 [] R [] ∧ R.length = n + 1 ∧ Win wr g3 [] Q [] ∧ Q.length = n - m + 1 ∧ dval Q = a / b ∧ dval R = 2 ^ s * (a % b) ∧ dval R < D ∧ Below w.heap.size w wr := by
  obtain ⟨R, Q, h1, h2, h3, h4, _, h5, h6, h7⟩ := h
  simp only [Nat.pow_zero, Nat.one_mul, List.drop_zero] at h5 h6
  obtain ⟨e1, e2⟩ := long_fin R Q s a b D hb hD h5 h6
  exact ⟨R, Q, h1, h2, h3, h4, e1, e2, h6, h7⟩
theorem take_all (R : List Nat) (k : Nat) (h : k ≤ R.length) (hl : dval R < 4294967296 ^ k) : dval (R.take k) = dval R := by
  have e := dval_split R k h
  rcases Nat.eq_zero_or_pos (dval (R.drop k)) with h0 | h0
  · rw [h0, Nat.mul_zero, Nat.add_zero] at e; exact e.symm
  · have := Nat.mul_le_mul_left (4294967296 ^ k) h0
    rw [Nat.succ_eq_add_one, Nat.zero_add, Nat.mul_one] at this
    omega
theorem below_of_grown {a b : World} {g B : Nat} {w : World} (hb : Below B w a) (h : a.grownBy b (some g)) (hg : B ≤ g) (hB : B ≤ a.heap.size) : Below B w b :=
  hb.trans (grown_below h hg hB)
theorem LongInv.step {g1 g2 g3 n m D A0 : Nat} {ds : List Nat} {w wr : World} {i : Nat} (h : LongInv g1 g2 g3 n m D A0 ds w (i + 1) wr) (hi : i < n - m + 1) (hm : 2 ≤ m) (hmn : m ≤ n) (hn : n ≤ 900000) (h1 : w.heap.size ≤ g1) (h2 : g1 < g2) (h3 : g2 < g3) (hD : dval ds = D) (hDlt : D < 4294967296 ^ m) (htop : 2147483648 ≤ ds.getD (m - 1) 0) :
    Calls Tryz.prog 132 #[.slice (some ⟨g1, i, none⟩) (m + 1) (m + 1), .slice (some ⟨g2, 0, none⟩) m m] wr fun e w' => ∃ u : Nat, e = .returned (.int .u32 (u : Int)) ∧ (∃ z, w'.cell? ⟨g3, i, none⟩ = some z) ∧ w'.frozen? ⟨g3, i, none⟩ = false ∧ LongInv g1 g2 g3 n m D A0 ds w i (w'.setCell ⟨g3, i, none⟩ (.int .u32 (u : Int))) := by
  obtain ⟨R, Q, k1, k2, k3, k4, k5, k6, k7, k8⟩ := h
  have hst := fun win' => long_step R Q win' i m n D A0 k2 k4 hmn hi hDlt k1.lt k6 k7
  have hW := (hst []).1
  have hlen : ((R.drop i).take (m + 1)).length = m + 1 := by simp; omega
  have hpre : (R.take i).length = i := by simp; omega
  refine (divideStep_any g1 i m (m + 1) (m + 1) m (some ⟨g2, 0, none⟩) (R.take i) ((R.drop i).take (m + 1)) (R.drop (i + (m + 1))) ds wr (k1.part i (m + 1)) hpre hlen (Nat.le_refl _) (by omega) k5 (fun _ ad e => by injection e with e; subst e; simp; omega) rfl hm htop (by rw [hD]; exact hW)).mono ?_
  rintro e w' ⟨win', rfl, hw, hl, hv, hg⟩
  rw [hD] at hv
  obtain ⟨c1, c2⟩ := (hst win').2 (by rw [hl]; exact hlen) hv
  have q3 : Win w' g3 [] Q [] := k3.off hg (by omega)
  have d5 : Lst w' (some ⟨g2, 0, none⟩) m m ds := k5.off hg (fun _ ad e => by injection e with e; subst e; simp; omega)
  have hcell := q3.cell (off := 0) rfl (k := i) (by omega)
  rw [Nat.zero_add] at hcell
  rw [hD]
  have hlt : dval ((R.drop i).take (m + 1)) / D < 4294967296 := (Nat.div_lt_iff_lt_mul (by omega)).2 hW
  have hset := q3.set (off := 0) rfl (k := i) (by omega) (dval ((R.drop i).take (m + 1)) / D) hlt
  rw [Nat.zero_add] at hset
  refine ⟨_, rfl, ⟨_, hcell⟩, q3.frozen _, R.take i ++ win' ++ R.drop (i + (m + 1)), Q.set i (dval ((R.drop i).take (m + 1)) / D), ?_, ?_, hset, by simpa using k4, ?_, c1, c2, ?_⟩
  · exact (k1.join hw).off (grown_set w' g3 i _) (by omega)
  · simp; omega
  · exact d5.off (grown_set w' g3 i _) (fun _ ad e => by injection e with e; subst e; simp; omega)
  · exact (below_of_grown k8 hg h1 k8.size).setCell (by simp; omega) _
set_option maxRecDepth 100000 in
set_option maxHeartbeats 4000000 in
theorem divideLong_any (A B : Option Addr) (n c m d a b : Nat) (xs ys : List Nat) (w : World) (hx : Num w A n c xs a) (hy : Num w B m d ys b) (hm : 2 ≤ m) (hmn : m ≤ n) (hn : n ≤ 900000) :
    Calls Tryz.prog 112 #[.slice A n c, .slice B m d] w (GivesTwo (a / b) (a % b) w) := by
  obtain ⟨i0, hi0, hz0, hz1, hz2⟩ := info_parts infoU32
  have hbp := Lib.hid (hy.pos (by omega))
  obtain ⟨bd, rfl, _, hcell⟩ := hy.toLst.at_ (k := m - 1) (by omega)
  have htop : ys.getD (m - 1) 0 ≠ 0 := by
    rcases hy.tight with h1 | h1
    · have := hy.len; omega
    · rw [hy.len] at h1; exact h1
  have htl := hy.toLst.getD_lt (m - 1)
  obtain ⟨b1, b2, b3, b4⟩ := bits_len _ htop htl
  have C0 := fun w' => bits_LeadingZeros32 ((ys.getD (m - 1) 0 : Nat) : Int) w' (by omega) (by omega)
  simp only [Int.toNat_natCast] at C0
  obtain ⟨L, hL⟩ : ∃ L, Lib.bitLen (ys.getD (m - 1) 0) = L := ⟨_, rfl⟩
  rw [hL] at b1 b2 b3 b4
  obtain ⟨s, hs⟩ : ∃ s, L + s = 32 := ⟨32 - L, by omega⟩
  have C : Hid (∀ w', Calls Tryz.prog 130 #[.int .u32 ((ys.getD (m - 1) 0 : Nat) : Int)] w' fun e w'' => e = .returned (.int .i64 (s : Int)) ∧ w' = w'') :=
    Lib.hid fun w' => (C0 w').mono fun e w'' ⟨he, hw⟩ => ⟨by rw [he, hL]; congr 2; omega, hw.symm⟩
  have hs32 : s < 32 := by omega
  have NRM := Lib.hid (fun row hr hrt k hk ht hv => norm_div ys row m s L b (by omega) hy.len hy.lt hy.val b2 b3 b1 hs hr hrt k hk ht hv)
  have HX := Lib.hid hx
  have HY := Lib.hid hy
  have S1 := Lib.hid (shiftLeft_any A n c s xs w hx.toLst (by omega) hs32)
  generalize ys.getD (m - 1) 0 = t at *
  clear hx hy C0 hL b1 b2 b3 b4 hs htop htl
  go_enter Tryz.func112, Tryz.ntmps112
  go_wp2_with fail
  refine (C.out _).mono ?_
  rintro e w' ⟨rfl, rfl⟩
  go_wp2_with fail
  refine S1.out.mono ?_
  rintro e w1 ⟨R0, rfl, hR1, hR2, hR3, hR4⟩
  have Y1 := HY.out.keep hR4
  have S2 := Lib.hid (shiftLeft_any (some bd) m d s ys w1 Y1.toLst (by omega) hs32)
  have W1 := Lib.hid hR1
  have W1l := Lib.hid hR2
  have W1v := Lib.hid (show dval R0 = 2 ^ s * a by rw [hR3, HX.out.val])
  have B1 := Lib.hid hR4
  have g1lt : Hid (w.heap.size < w1.heap.size) := Lib.hid hR1.size
  clear hR1 hR2 hR3 hR4 S1
  go_wp2_with fail
  refine S2.out.mono ?_
  rintro e w2 ⟨D0, rfl, hD1, hD2, hD3, hD4⟩
  have hDv : dval D0 = 2 ^ s * b := by rw [hD3, Y1.val]
  have LD : Hid (Lst w2 (some ⟨w1.heap.size, 0, none⟩) (m + 1) (m + 1) D0) := Lib.hid (by
    have := hD1.lst (off := 0) (c := m + 1) rfl (by omega) (by omega)
    rwa [hD2] at this)
  have W2 := Lib.hid (W1.out.keep hD4)
  have B2 := Lib.hid (B1.out.trans (hD4.mono B1.out.size))
  have DV := Lib.hid hDv
  have DL := Lib.hid hD2
  have g2lt : Hid (w1.heap.size < w2.heap.size) := Lib.hid hD1.size
  clear hD1 hD2 hD3 hD4 hDv Y1 S2 W1 B1
  go_wp2_with fail
  refine (trim_any _ _ _ _ _ LD.out).mono ?_
  rintro e w' ⟨k, hk, rfl, ht, hv, rfl⟩
  obtain ⟨rfl, htop⟩ := NRM.out D0 DV.out LD.out.lt k hk ht hv
  have LD2 := Lib.hid (LD.out.cut hk)
  have HT := Lib.hid htop
  have HV := Lib.hid (hv.trans DV.out)
  have HDlt : Hid (2 ^ s * b < 4294967296 ^ k) := Lib.hid (by
    have := dval_lt _ LD2.out.lt
    rw [HV.out, LD2.out.len] at this
    exact this)
  have HDge : Hid (4294967296 ^ (k - 1) * 2147483648 ≤ 2 ^ s * b) := Lib.hid (by
    have e := dval_take_succ' (D0.take k) (k - 1)
    rw [show k - 1 + 1 = k by omega, List.take_of_length_le (by have := LD2.out.len; omega), HV.out] at e
    have := Nat.mul_le_mul_left (4294967296 ^ (k - 1)) htop
    rw [e]
    exact Nat.le_trans this (Nat.le_add_left _ _))
  clear hk ht hv NRM htop
  generalize D0.take k = ds at *
  go_wp2_with (at_make; refine wpList_make_full _ rfl _ _ 23 rfl w2.heap.size 52 i0 (.int .u32 0) 1 Tryz.underlying23 hi0 hz0 hz1 _ _ _ _ (n - k + 1) rfl rfl (by omega) (by omega) ?b2 ?b3 (Nat.le_refl _) ?_)
  case b2 => rw [hz2]; omega
  case b3 => unfold maxLen; omega
  intro w3 hown hgrow
  have hw3 := made_win hown
  have hb3 : Below w2.heap.size w2 w3 := (Below.refl _ _).grown hgrow (Nat.le_refl _) (by intro k hk; cases hk)
  have I0 : Hid (LongInv w.heap.size w1.heap.size w2.heap.size n k (2 ^ s * b) (2 ^ s * a) ds w (n - k + 1) w3) := Lib.hid (by
    have hst := long_start R0 (List.replicate (n - k + 1) 0) k n (2 ^ s * b) s a 2147483648 W1l.out (by rw [List.drop_eq_nil_of_le (by simp)]; rfl) (by omega) hmn HX.out.lt_pow (pow_lt32 s hs32) (by decide) W1v.out HDge.out
    exact ⟨R0, List.replicate (n - k + 1) 0, W2.out.keep hb3, W1l.out, hw3, by simp, LD2.out.keep hb3, hst.1, hst.2, B2.out.trans (hb3.mono B2.out.size)⟩)
  clear hown hgrow hw3 hb3 W2 LD2 LD B2 DV DL W1l W1v
  have hc1 : ((n : Int) - (k : Int) + 1) = ((n - k + 1 : Nat) : Int) := by omega
  obtain ⟨q, hq⟩ : ∃ q, n - k + 1 = q := ⟨_, rfl⟩
  have hqn : q + k = n + 1 := by omega
  rw [hq] at I0
  go_wp2
  obtain ⟨G1, hG1⟩ : ∃ G1, w.heap.size = G1 := ⟨_, rfl⟩
  obtain ⟨G2, hG2⟩ : ∃ G2, w1.heap.size = G2 := ⟨_, rfl⟩
  obtain ⟨G3, hG3⟩ : ∃ G3, w2.heap.size = G3 := ⟨_, rfl⟩
  have l1 : w.heap.size ≤ G1 := by omega
  have l2 : G1 < G2 := by have := g1lt.out; omega
  have l3 : G2 < G3 := by have := g2lt.out; omega
  rw [hG1, hG2, hG3] at I0
  rw [hG1, hG2, hG3]
  have LL1 := Lib.hid l1
  clear hG1 hG2 hG3 g1lt g2lt l1
  go_loopw [10] (fun i wr => ∃ j : Nat, j ≤ q ∧ i = .int .i64 ((j : Int) - 1) ∧ Hid (LongInv G1 G2 G3 n k (2 ^ s * b) (2 ^ s * a) ds w j wr)) (fun i _ => (intOf i + 1).toNat)
  case atStart => exact ⟨q, by omega, rfl, I0⟩
  case round =>
    obtain ⟨j, hj, rfl, hi⟩ := hrel
    rcases j with _ | i
    · obtain ⟨R, Q, k1, k2, k3, k4, hq1, hr1, hlt, hb⟩ := hi.out.fin hbp.out rfl
      have hp : 0 < 2 ^ s := Nat.pow_pos (by decide)
      have ht := take_all R k (by omega) (Nat.lt_trans hlt HDlt.out)
      have KP : Win wr G1 [] (R.take k) (R.drop k) := ⟨by have := k1.blk; simpa using this, fun d hd => k1.lt d (List.mem_of_mem_take hd)⟩
      have SR := Lib.hid (shiftRight_any G1 k k s (R.take k) (R.drop k) wr KP (by simp; omega) (by omega) (Nat.le_refl _) hs32)
      have K3 := Lib.hid k3
      have K4 := Lib.hid k4
      have HQ := Lib.hid hq1
      have HR : Hid (dval (R.take k) / 2 ^ s = a % b) := Lib.hid (by rw [ht, hr1, Nat.mul_div_cancel_left _ hp])
      have HRL : Hid ((R.take k).length = k) := Lib.hid (by simp; omega)
      have HB := Lib.hid hb
      clear k1 k2 k3 k4 hq1 hr1 hlt hb hp ht KP hi I0 hc1 hq
      go_wp2_with fail
      refine SR.out.mono ?_
      rintro e w4 ⟨r, rfl, hw, hl, hv, hg⟩
      have LQ : Lst w4 (some ⟨G3, 0, none⟩) (n - k + 1) (n - k + 1) Q := by
        have := (K3.out.off hg (by omega)).lst (off := 0) (c := n - k + 1) rfl (by have := K4.out; omega) (by have := K4.out; omega)
        rwa [K4.out] at this
      have LR : Lst w4 (some ⟨G1, 0, none⟩) k k r := by
        have := hw.lst (off := 0) (c := k) rfl (by rw [hl, HRL.out]; exact Nat.le_refl _) (by rw [hl, HRL.out]; omega)
        rwa [hl, HRL.out] at this
      have QL := Lib.hid LQ
      have RL := Lib.hid LR
      have RV := Lib.hid (hv.trans HR.out)
      have BB := Lib.hid (below_of_grown HB.out hg LL1.out HB.out.size)
      clear hw hl hv hg LQ LR SR K3 HR HRL HB
      go_wp2_with fail
      refine (trim_any _ _ _ _ _ QL.out).mono ?_
      rintro e w' ⟨kq, hkq, rfl, tq, vq, rfl⟩
      have X1 : Hid (Num w4 (some ⟨G3, 0, none⟩) kq kq (Q.take kq) (a / b)) := Lib.hid ⟨QL.out.cut hkq, tq, vq.trans HQ.out⟩
      clear hkq tq vq
      go_wp2_with fail
      refine (trim_any _ _ _ _ _ RL.out).mono ?_
      rintro e w' ⟨kr, hkr, rfl, tr, vr, rfl⟩
      have X2 : Hid (Num w4 (some ⟨G1, 0, none⟩) kr kr (r.take kr) (a % b)) := Lib.hid ⟨RL.out.cut hkr, tr, vr.trans RV.out⟩
      clear hkr tr vr
      go_wp2
      go_ret2
      exact ⟨_, _, _, _, _, _, _, _, rfl, X1.out, X2.out, BB.out⟩
    · have S := Lib.hid (hi.out.step (by omega) hm hmn hn LL1.out l2 l3 HV.out HDlt.out HT.out)
      have e1 : ((i : Int) + (k : Int) + 1).toNat = i + k + 1 := by omega
      have e2 : 0 ≤ (i : Int) + (k : Int) + 1 := by omega
      have e3 : (i : Int) + (k : Int) + 1 ≤ (n : Int) + 1 := by omega
      have e4 : (i : Int) + (k : Int) + 1 ≤ max ((i : Int) + (k : Int) + 1) 0 := by omega
      have e5 : i ≤ i + k + 1 := by omega
      have e6 : i + k + 1 - i = k + 1 := by omega
      have e7 : (i + k + 1 = i) = False := eq_false (by omega)
      clear hi I0 hc1 hq
      have hi2 : i < n - k + 1 := by omega
      go_wp2_with fail
      refine S.out.mono ?_
      rintro e w' ⟨u, rfl, ⟨z, hz⟩, hfz, hI⟩
      have HI := Lib.hid hI
      clear hI S e1 e2 e3 e4 e5 e6 e7
      go_wp2
      go_roundw
      case rel => exact ⟨i, by omega, by go_num, HI⟩
      case measure => simp [intOf]; try omega
end Go.Proofs.YtbllnkhbahenkaaGreatDoor
namespace Go.Proofs.YtbllnkhbahenkaaGreatDoor
open Go.RowKit
theorem Own.numOf {w : World} {B : Nat} {v : Value} {xs : List Nat} {a : Nat} (h : Own w B v xs) (hs : xs.length ≤ 35184372088832) (ht : Tight xs) (hv : dval xs = a) : ∃ A c, v = .slice A xs.length c ∧ Num w A xs.length c xs a := by
  obtain ⟨A, c, rfl, L⟩ := h.lst hs
  exact ⟨A, c, rfl, L, ht, hv⟩
theorem Num.less {w : World} {A B : Option Addr} {n c m d a b : Nat} {xs ys : List Nat} (hx : Num w A n c xs a) (hy : Num w B m d ys b) (h : n < m) : a < b := by
  have := len_lt xs ys hx.lt hy.tight (by rw [hx.len, hy.len]; exact h)
  rwa [hx.val, hy.val] at this
set_option maxRecDepth 100000 in
set_option maxHeartbeats 1000000 in
theorem divide_short (A B : Option Addr) (n c m d a b : Nat) (xs ys : List Nat) (w : World) (hx : Num w A n c xs a) (hy : Num w B m d ys b) (hm : 2 < m) (hnm : n < m) (hn : n ≤ 900000) (hm2 : m ≤ 900000) :
    Calls Tryz.prog 82 #[.slice A n c, .slice B m d] w (GivesTwo (a / b) (a % b) w) := by
  have hab := hx.less hy hnm
  have E : Hid (a / b = 0 ∧ a % b = a) := Lib.hid ⟨Nat.div_eq_of_lt hab, Nat.mod_eq_of_lt hab⟩
  have HX := Lib.hid hx
  have d2 : decide (m ≤ 2) = false := decide_eq_false (by omega)
  clear hx hy hab
  by_cases h2 : n ≤ 2
  · have d1 : decide (n ≤ 2) = true := decide_eq_true h2
    go_enter Tryz.func82, Tryz.ntmps82
    go_wp2_with fail
    refine (small_any _ _ _ _ (by omega)).mono ?_
    rintro e w' ⟨rfl, rfl⟩
    go_wp2_with fail
    refine (small_any _ _ _ _ (by omega)).mono ?_
    rintro e w' ⟨rfl, rfl⟩
    go_wp2_with fail
    refine (clone_any _ _ _ _ _ HX.out.toLst).mono ?_
    rintro e w1 ⟨v, rfl, hO, hb⟩
    obtain ⟨A1, c1, rfl, hN⟩ := hO.numOf (by rw [HX.out.len]; omega) HX.out.tight HX.out.val
    have G : Hid (GivesTwo (a / b) (a % b) w (.returned (.tuple #[.slice none 0 0, .slice A1 xs.length c1])) w1) := Lib.hid (by
      rw [E.out.1, E.out.2]
      exact ⟨_, _, _, _, _, _, _, _, rfl, Num.zero _, hN, hb⟩)
    clear hO hN hb
    generalize xs.length = l at G
    go_wp2
    go_ret2
    exact G.out
  · have d1 : decide (n ≤ 2) = false := decide_eq_false h2
    go_enter Tryz.func82, Tryz.ntmps82
    go_wp2_with fail
    refine (small_any _ _ _ _ (by omega)).mono ?_
    rintro e w' ⟨rfl, rfl⟩
    go_wp2_with fail
    refine (clone_any _ _ _ _ _ HX.out.toLst).mono ?_
    rintro e w1 ⟨v, rfl, hO, hb⟩
    obtain ⟨A1, c1, rfl, hN⟩ := hO.numOf (by rw [HX.out.len]; omega) HX.out.tight HX.out.val
    have G : Hid (GivesTwo (a / b) (a % b) w (.returned (.tuple #[.slice none 0 0, .slice A1 xs.length c1])) w1) := Lib.hid (by
      rw [E.out.1, E.out.2]
      exact ⟨_, _, _, _, _, _, _, _, rfl, Num.zero _, hN, hb⟩)
    clear hO hN hb
    generalize xs.length = l at G
    go_wp2
    go_ret2
    exact G.out
set_option maxRecDepth 100000 in
set_option maxHeartbeats 1000000 in
theorem divide_one (A B : Option Addr) (n c d a b : Nat) (xs ys : List Nat) (w : World) (hx : Num w A n c xs a) (hy : Num w B 1 d ys b) (hn2 : 2 < n) (hn : n ≤ 900000) :
    Calls Tryz.prog 82 #[.slice A n c, .slice B 1 d] w (GivesTwo (a / b) (a % b) w) := by
  have hbp := hy.pos (by omega)
  have hbl : b < 4294967296 := by have := hy.lt_pow; simpa using this
  obtain ⟨bd, rfl, _, hcell0⟩ := hy.toLst.at_ (k := 0) (by omega)
  rw [add_zero_] at hcell0
  have hyb : ys.getD 0 0 = b := by
    have h1 := hy.len
    have h2 := hy.val
    rcases ys with _ | ⟨y, _ | ⟨z, zs⟩⟩
    · simp at h1
    · simpa [dval] using h2
    · simp at h1
  rw [hyb] at hcell0
  have HX := Lib.hid hx
  have HC := Lib.hid hcell0
  have d1 : decide (n ≤ 2) = false := decide_eq_false (by omega)
  clear hx hy hyb hcell0
  have HB := Lib.hid (show bd.block < w.heap.size from World.block_lt_of_cell? w _ HC.out)
  go_enter Tryz.func82, Tryz.ntmps82
  go_wp2_with fail
  refine (small_any _ _ _ _ (by omega)).mono ?_
  rintro e w' ⟨rfl, rfl⟩
  go_wp2_with fail
  refine (clone_any _ _ _ _ _ HX.out.toLst).mono ?_
  rintro e w1 ⟨v, rfl, hO, hb⟩
  obtain ⟨A1, c1, rfl, hM, hc1⟩ := hO.mine
  have DB := Lib.hid (divideByDigit_any A1 xs.length c1 b xs w1 w.heap.size hM (by rw [HX.out.len]; omega) hb.size hbp hbl)
  have hcell : w1.cell? bd = some (.int .u32 (b : Int)) := by rw [hb.cell HB.out]; exact HC.out
  have hl : xs.length = n := HX.out.len
  rw [hl] at DB hc1
  rw [hl]
  have B1 := Lib.hid hb
  clear hO hM hb hl
  go_wp2_with fail
  refine DB.out.mono ?_
  rintro e w2 ⟨cur, rfl, hM, ⟨hb2, _⟩, hv⟩
  have L := Lib.hid (hM.lst (c := c1) hc1 (by omega))
  have V := Lib.hid (hv.trans (by rw [HX.out.val]))
  have B2 := Lib.hid (B1.out.trans hb2)
  have HV := Lib.hid HX.out.val
  rw [HV.out]
  have hr : a % b < b := Nat.mod_lt _ hbp
  obtain ⟨r, hre⟩ : ∃ r, a % b = r := ⟨_, rfl⟩
  rw [hre] at hr ⊢
  have RE := Lib.hid hre
  clear hM hb2 hv DB hre
  go_wp2_with fail
  refine (trim_any _ _ _ _ _ L.out).mono ?_
  rintro e w' ⟨k, hk, rfl, ht, hv, rfl⟩
  have X1 := Lib.hid (show Num w2 A1 k k (cur.take k) (a / b) from ⟨L.out.cut hk, ht, hv.trans V.out⟩)
  clear hk ht hv
  go_wp2_with fail
  refine (fromUint_any r (by omega) _).mono ?_
  rintro e w3 ⟨A3, n3, c3, x3, rfl, h3, b3⟩
  have G : Hid (GivesTwo (a / b) r w (.returned (.tuple #[.slice A1 k k, .slice A3 n3 c3])) w3) := Lib.hid ⟨_, _, _, _, _, _, _, _, rfl, X1.out.keep b3, h3, B2.out.trans (b3.mono B2.out.size)⟩
  clear h3 b3 X1
  go_wp2
  go_ret2
  rw [RE.out]
  exact G.out
set_option maxRecDepth 100000 in
set_option maxHeartbeats 1000000 in
theorem divide_long (A B : Option Addr) (n c m d a b : Nat) (xs ys : List Nat) (w : World) (hx : Num w A n c xs a) (hy : Num w B m d ys b) (hm : 2 ≤ m) (hmn : m ≤ n) (h2 : 2 < n) (hn : n ≤ 900000) :
    Calls Tryz.prog 82 #[.slice A n c, .slice B m d] w (GivesTwo (a / b) (a % b) w) := by
  have D := Lib.hid (divideLong_any A B n c m d a b xs ys w hx hy hm hmn hn)
  have d1 : decide (n ≤ 2) = false := decide_eq_false (by omega)
  have d2 : ((m : Int) == 1) = false := beq_eq_false_iff_ne.2 (by omega)
  clear hx hy
  go_enter Tryz.func82, Tryz.ntmps82
  go_wp2_with fail
  refine (small_any _ _ _ _ (by omega)).mono ?_
  rintro e w' ⟨rfl, rfl⟩
  go_wp2_with fail
  refine D.out.mono ?_
  rintro e w1 ⟨A1, n1, c1, xs1, A2, n2, c2, xs2, rfl, h1, h2, h3⟩
  have G := Lib.hid (show GivesTwo (a / b) (a % b) w (.returned (.tuple #[.slice A1 n1 c1, .slice A2 n2 c2])) w1 from ⟨_, _, _, _, _, _, _, _, rfl, h1, h2, h3⟩)
  clear h1 h2 h3 D
  go_wp2
  go_ret2
  exact G.out
/-- Quotient and remainder of any numbers; the divisor is not zero. -/
theorem divide_any (A B : Option Addr) (n c m d a b : Nat) (xs ys : List Nat) (w : World) (hx : Num w A n c xs a) (hy : Num w B m d ys b) (hm : 0 < m) (hn : n ≤ 900000) (hm2 : m ≤ 900000) :
    Calls Tryz.prog 82 #[.slice A n c, .slice B m d] w (GivesTwo (a / b) (a % b) w) := by
  by_cases h1 : n ≤ 2 ∧ m ≤ 2
  · exact divide_small A B n c m d a b xs ys w hx hy h1.1 h1.2 (hy.pos hm)
  · rcases Nat.lt_or_ge n m with h2 | h2
    · exact divide_short A B n c m d a b xs ys w hx hy (by omega) h2 hn hm2
    · by_cases h3 : m = 1
      · subst h3
        exact divide_one A B n c d a b xs ys w hx hy (by omega) hn
      · exact divide_long A B n c m d a b xs ys w hx hy (by omega) h2 (by omega) hn
theorem divMod_any (A B : Option Addr) (n c m d a b : Nat) (xs ys : List Nat) (w : World) (hx : Num w A n c xs a) (hy : Num w B m d ys b) (hm : 0 < m) (hn : n ≤ 900000) (hm2 : m ≤ 900000) :
    Calls Tryz.prog 74 #[.slice A n c, .slice B m d] w (GivesDiv (a / b) (a % b) 0 w) :=
  divMod_of A B n c m d a b xs ys w hx hy hm (divide_any A B n n m m a b xs ys w hx.caps hy.caps hm hn hm2)
end Go.Proofs.YtbllnkhbahenkaaGreatDoor
